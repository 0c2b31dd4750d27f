import Derived.Test.YtcmgclckknpecaaGreatDoorKbn
namespace Go.Proofs.YtcmgclckknpecaaGreatDoor
open Go.RowKit Go.Maps Go.Shelf
theorem dhas_iff {id:Int} {ds:Dl}:dhas id ds=true ↔ ∃ d∈ds,(d.1:Int)=id:=by simp [dhas]
theorem Dcs.put [Inhabited Exb] {m:Nat} {ds ds':Dl} {w w':World} {idn n':Nat} {tx:List ByteArray} {v:Value} {D:DataW Value} (h:Dcs m ds w) (hno:dhas (idn:Int) ds=false) (hD:w.ownsMap Tryz.prog 3 slE m ds.length D) (ho:w'.ownsMap Tryz.prog 3 slE m n' (D.put (.int .i64 (idn:Int)) (.held v))) (ha:Agr w w') (hv:w'.ownsRow 0 9 1 v tx.length (tx.map .string)) (hve:∀ g,v.ownBlock=some g→¬ (default:Exb).p g) (hl:ds'.length=ds.length+1) (hm:∀ d,d∈ds' ↔ d=(idn,tx)∨d∈ds):Dcs m ds' w':=by
 obtain ⟨D',h1,h2,h3,h4⟩:=h.ex
 obtain rfl:=ownsMap_fun hD h1
 have hsz:Maps.size (D.put (.int .i64 (idn:Int)) (.held v))=ds'.length:=by
  rw [size_put (hD.tidy keyI),h3,hno,h2,hl];rfl
 refine ⟨_,hsz ▸ ownsMap_size ho,hsz,fun x=>?_,fun d hd=>?_⟩
 ·by_cases hx:x=(idn:Int)
  ·subst hx
   rw [has_put_same (k:=.int .i64 (idn:Int)) hD.isMap trivial]
   exact (dhas_iff.2 ⟨(idn,tx),(hm _).2 (.inl rfl),rfl⟩).symm
  ·rw [has_put_other (by simpa using hx),h3,Bool.eq_iff_iff,dhas_iff,dhas_iff]
   constructor
   ·rintro ⟨d,q1,q2⟩
    exact ⟨d,(hm d).2 (.inr q1),q2⟩
   ·rintro ⟨d,q1,q2⟩
    rcases (hm d).1 q1 with rfl | q1
    ·exact absurd q2.symm hx
    ·exact ⟨d,q1,q2⟩
 ·rcases (hm d).1 hd with rfl | hd
  ·exact ⟨v,fun z=>atKey_put_same (k:=.int .i64 (idn:Int)) hD.isMap trivial _ z,hv,hve⟩
  ·obtain ⟨u,q1,q2,q3⟩:=h4 d hd
   refine ⟨u,fun z=>?_,ownsRow_agr ha q2 (.inl ⟨rfl,q3⟩),q3⟩
   have hne:(Lit.int .i64 (d.1:Int))≠.int .i64 (idn:Int):=fun e=>by
    have e2:(d.1:Int)=(idn:Int):=by injection e
    have:=dhas_iff.2 ⟨d,hd,e2⟩
    rw [hno] at this
    cases this
   rw [atKey_put_other hne]
   exact q1 z
theorem info9':(Tryz.prog.info? 9).map (fun i=>(i.zero,i.size,i.bytes))=some (some (.string ⟨#[]⟩),1,16):=by kernel_rfl
structure Ow (o:Nat) (tx:List ByteArray) (j:Nat) (w:World):Prop where
 ex:∃ C:Array Value,w.heap[o]?=some (.cells C 9 (0,0))∧C.size=tx.length∧∀ i (h:i<tx.length),i<j→C[i]?=some (.string (tx[i]))
structure EaO (B:Nat) (L:List Fe) (m:Nat) (X Y:Nat→Prop) (N:Nat) (w w':World) (Y':Nat→Prop):Prop where
 g:Gl B X Y' N w'
 s:∀ i,Y i→Y' i
 t:∀ i,Y' i→Y i∨w.heap.size≤i
 m:Mv B (EF L m) X Y w w'
structure EaL (B:Nat) (L:List Fe) (X Y:Nat→Prop) (N:Nat) (tx:List ByteArray) (w:World) (iv:Value) (wr:World):Prop where
 ex:∃ (j:Nat) (Y':Nat→Prop),iv=.int .i64 (j:Int)∧j≤L.length∧AdO B X Y (N+300*j) w wr Y'∧Ow w.heap.size tx j wr
theorem Ow.set {o:Nat} {tx:List ByteArray} {j:Nat} {w:World} (h:Ow o tx j w) (hj:j<tx.length):Ow o tx (j+1) (w.setCell ⟨o,j,none⟩ (.string (tx[j]))):=by
 obtain ⟨C,h1,h2,h3⟩:=h.ex
 refine ⟨C.setIfInBounds j (.string (tx[j])),heap_set w o j _ C 9 h1,by simpa using h2,fun i hi hij=>?_⟩
 by_cases e:i=j
 ·subst e
  rw [Array.getElem?_setIfInBounds_self_of_lt (by omega)]
 ·rw [Array.getElem?_setIfInBounds_ne (fun q=>e q.symm)]
  exact h3 i hi (by omega)
theorem Ow.cells {o:Nat} {tx:List ByteArray} {j:Nat} {w w':World} (h:Ow o tx j w) (k:∀ C,w.heap[o]?=some (Obj.cells C 9 (0,0))→w'.heap[o]?=some (Obj.cells C 9 (0,0))):Ow o tx j w':=by
 obtain ⟨C,h1,h2,h3⟩:=h.ex
 exact ⟨C,k C h1,h2,h3⟩
theorem Ow.full {o:Nat} {tx:List ByteArray} {w:World} (h:Ow o tx tx.length w) (hl:tx.length≤maxLen):w.ownsRow 0 9 1 (.slice (some ⟨o,0,none⟩) tx.length tx.length) tx.length (tx.map .string):=by
 obtain ⟨C,h1,h2,h3⟩:=h.ex
 refine ⟨by simp,.inr ⟨o,tx.length,C,rfl,Nat.zero_le _,h1,Nat.le_refl _,hl,by omega,?_⟩⟩
 apply List.ext_getElem?
 intro i
 by_cases hi:i<tx.length
 ·rw [List.getElem?_take_of_lt (by omega),List.getElem?_map,List.getElem?_eq_getElem hi]
  simpa using h3 i hi hi
 ·rw [List.getElem?_eq_none (by simp;omega),List.getElem?_eq_none (by simp;omega)]
set_option maxRecDepth 100000 in
set_option maxHeartbeats 4000000 in
theorem eadd_any [Inhabited Exb] (B b:Nat) (L:List Fe) (m:Nat) (ds ds':Dl) (X Y:Nat→Prop) (N:Nat) (idn:Nat) (tx:List ByteArray) (ta:Option Addr) (ga:Addr) (tc base:Nat) (va:Value) (us:List (List Pl.Tc)) (w:World) (hE:Eng B b L m ds X w) (hG:Gl B X Y N w) (hB:B≤w.heap.size) (hYm:¬ Y m) (hN:N≤4611686018427380000) (HEX:Hid (∀ k,(default:Exb).p k→k<w.heap.size)) (hid:(Lit.int .i64 (idn:Int)).wf=true) (HTL:Hid (tx.length=L.length))
  (hT:TxA ga tx w) (hta:0<tx.length→ta=some ga) (hgt:0<tx.length→Tlw B ga w) (HTS:Hid (∀ t∈tx,t.size≤120)) (hTk:Tkn base va us w) (HUL:Hid (us.length=tx.length)) (HNO:Hid (dhas (idn:Int) ds=false)) (hdl:ds.length≤12) (HDL:Hid (ds'.length=ds.length+1)) (HDM:Hid (∀ d,d∈ds' ↔ d=(idn,tx)∨d∈ds)) :
  Calls Tryz.prog 150 #[.pointer (some ⟨b,0,none⟩),.int .i64 (idn:Int),.slice ta tx.length tc,va] w fun e w'=>e=.returned (.tuple #[])∧Eng B b L m ds' X w'∧∃ Y',EaO B L m X Y (N+900) w w' Y':=by
 obtain ⟨i9,hi9,hy0,hy1,hy2⟩:=info_parts info9'
 obtain ⟨g,cap,h1,hrow⟩:=hE.e
 have c0:w.cell? ⟨b,0,none⟩=some (.slice (some ⟨g,0,none⟩) L.length cap):=blk_cell h1 0
 have hl3:=hE.l.2
 have hl0:=hE.l.1
 have htl1:tx.length≤L.length:=by have:=HTL.out;omega
 have htl2:L.length≤tx.length:=by have:=HTL.out;omega
 obtain ⟨vs,v1,v2,v3⟩:=hTk.ex
 have hvl:vs.length=tx.length:=by rw [← HUL.out,← v1];simp
 rw [hvl] at v2
 obtain ⟨gk,kc,rfl,_,hgk⟩:=v2.form (by omega)
 obtain ⟨Z,hZ,hmk⟩:∃ Z:Array Value,Z.size=tx.length∧∀ W:World,(Instr.makeSlice 63 (.int .i64 (tx.length:Int)) (.int .i64 (tx.length:Int))).run Tryz.prog W=.ok (.slice (some ⟨W.heap.size,0,none⟩) tx.length tx.length) (W.alloc (.cells Z 9)):=by
  refine ⟨madeCells (Value.string ⟨#[]⟩).cells tx.length,size_madeCells _ _,fun W=>?_⟩
  have:=run_make (P:=Tryz.prog) W 63 9 i9 _ Tryz.underlying63 hi9 hy0 .i64 .i64 (tx.length:Int) (tx.length:Int) (by omega) (by omega) (by rw [hy2];omega) (by omega)
  rw [this,hy1]
  simp
 have HK:Hid (∀ j (hj:j<L.length),∃ (qv:Value) (kt:List Tk) (t:ByteArray),tx[j]?=some t∧ta=some ga∧X (L[j]).2.2∧t.size≤120∧(kt.length≤300∧Hid (∀ t∈kt,t.1.size≤281474976710656∧t.2.1≤1099511627775))∧∀ W,Mv B (fun _=>False) X Y w W→(W.cell? ⟨g,j,none⟩=some (.pointer (some ⟨(L[j]).1,0,none⟩))∧W.cell? (ga.add j)=some (.string t))∧(W.cell? ⟨(L[j]).1,15,none⟩=some (.map (some (L[j]).2.2))∧W.cell? ⟨gk,j,none⟩=some qv)∧W.ownsRow 0 27 4 qv kt.length (kt.flatMap tenc)):=fun j hj=>by
  have hjt:j<tx.length:=by omega
  have hjv:j<vs.length:=by omega
  obtain ⟨r3,r4⟩:=v3 _ (List.getElem_mem hjv)
  obtain ⟨f1,f2,f3⟩:=hE.f _ (List.getElem_mem hj)
  obtain ⟨cs,b1,_,_,b2⟩:=f1.blk
  have ad:∀ x:Nat,((⟨x,0,none⟩:Addr).add j)=⟨x,j,none⟩:=fun x=>by unfold Addr.add;split <;> simp_all
  refine ⟨(vs[j]).1,(vs[j]).2.map Pl.tkC,tx[j],List.getElem?_eq_getElem hjt,hta (by omega),f2,HTS.out _ (List.getElem_mem hjt),⟨by rw [List.length_map];exact r4.n,r4.k⟩,fun W hW=>?_⟩
  have hFk:Fok B (fun _=>False) X Y w:=⟨hE.p.1,fun i hi=>(hE.fok hG).k i (hi.elim (fun q=>q.elim) .inr)⟩
  have hK:=hW.kc hB hFk
  have hr:=hK.row hrow (by decide) (by decide)
  have hr2:=hK.row v2 (by decide) (by decide)
  refine ⟨⟨?_,((hgt (by omega)).cell hK j).trans (hT.c j hjt)⟩,⟨?_,?_⟩,?_⟩
  ·have:=hr.cells (g:=g) rfl j (.pointer (some ⟨(L[j]).1,0,none⟩)) (by simp [hj])
   rw [ad] at this
   exact this
  ·have hb2:W.heap[(L[j]).1]?=some (.cells cs 175 (0,0)):=hW.cells b1 (by decide) (fun q=>q) (hG.not_cells b1).1 (hG.not_cells b1).2
   simp [World.cell?,hb2,b2]
  ·have:=hr2.cells (g:=gk) rfl j (vs[j]).1 (by simp [hjv])
   rw [ad] at this
   exact this
  ·rw [List.length_map]
   exact hK.row r3 (by decide) (by decide)
 have hBa:Below w.heap.size w (w.alloc (.cells Z 9)):=(Below.refl _ _).alloc (Nat.le_refl _) _
 have HST:Hid (AdO B X Y (N+300*0) w (w.alloc (.cells Z 9)) Y∧Ow w.heap.size tx 0 (w.alloc (.cells Z 9))):=⟨⟨hG.below hBa,fun _ q=>q,fun _ q=>.inl q,Mv.below hBa⟩,⟨Z,heap_alloc_new w _,hZ,fun i _ h=>by omega⟩⟩
 have c0a:(w.alloc (.cells Z 9)).cell? ⟨b,0,none⟩=some (.slice (some ⟨g,0,none⟩) L.length cap):=(hBa.cell (p:=⟨b,0,none⟩) h1.lt).trans c0
 have HCL:Hid (∀ s:ByteArray,s.size≤120→∀ W,Calls Tryz.prog 158 #[.string s] W fun e w'=>e=.returned (.string s)∧Below W.heap.size W w'):=fun s hs W=>clone_big s W (by omega)
 clear hT hta hgt hTk v1 v2 v3 hrow hZ
 go_enter Tryz.func150,Tryz.ntmps150
 go_wp2_with fail
 go_loopw [19] (fun iv wr=>EaL B L X Y N tx w iv wr) (fun iv _=>L.length - (intOf iv).toNat)
 case atStart=>exact ⟨0,Y,rfl,by omega,HST.out.1,HST.out.2⟩
 case round =>
  obtain ⟨j,Y',rfl,hj,hO,hOw⟩:=hrel.ex
  clear hrel
  by_cases hjl:j<L.length
  ·have hjI:(j:Int)<(L.length:Int):=by omega
   have hjT:(j:Int)<(tx.length:Int):=by omega
   obtain ⟨qv,kt,t,ht,rfl,k2,k4,⟨k7,KT⟩,hW⟩:=HK.out j hjl
   obtain ⟨⟨fb,fn,ib⟩,hf⟩:∃ f,L[j]=f:=⟨_,rfl⟩
   rw [hf] at k2
   simp only [hf] at hW
   simp only at k2
   clear hf
   obtain ⟨⟨k0,k3⟩,⟨k1,k5⟩,k6⟩:=hW wr hO.m
   obtain ⟨qa,qc,rfl⟩:=slice_of_row k6
   have HW:Hid (∀ W,Mv B (fun _=>False) X Y w W→(W.cell? ⟨fb,15,none⟩=some (.map (some ib))∧W.cell? ⟨gk,j,none⟩=some (.slice qa kt.length qc))∧W.ownsRow 0 27 4 (.slice qa kt.length qc) kt.length (kt.flatMap tenc)):=fun W h=>(hW W h).2
   clear hW k1 k5 k6
   have hsz:=hO.m.size
   have htj:j<tx.length:=by omega
   have ett:t=tx[j]:=by rw [List.getElem?_eq_getElem htj] at ht;injection ht with ht;exact ht.symm
   have HOW:Hid (Ow w.heap.size tx j wr):=hOw
   have HO:Hid (AdO B X Y (N+300*j) w wr Y'):=hO
   have HCT:Hid (∀ W,Calls Tryz.prog 158 #[.string t] W fun e w'=>e=.returned (.string t)∧Below W.heap.size W w'):=fun W=>HCL.out t k4 W
   have HNX:Hid (∀ w2,Below wr.heap.size wr w2→(∃ u,w2.cell? ⟨w.heap.size,j,none⟩=some u)∧w2.frozen? ⟨w.heap.size,j,none⟩=false∧(AdO B X Y (N+300*j) w (w2.setCell ⟨w.heap.size,j,none⟩ (.string t)) Y'∧Ow w.heap.size tx (j+1) (w2.setCell ⟨w.heap.size,j,none⟩ (.string t)))):=fun w2 hB2=>by
    obtain ⟨C,q1,q2,q3⟩:=hOw.ex
    have q4:=(hB2.block w.heap.size (Array.getElem?_eq_some_iff.1 q1).1).trans q1
    have hg:=grown_set w2 w.heap.size j (.string t)
    have hG2:=hO.g.below hB2
    refine ⟨⟨C[j]'(by omega),by simp [World.cell?,q4]⟩,by simp [World.frozen?,q4],⟨⟨hG2.far hg (hG2.not_cells q4).1 (hG2.not_cells q4).2 (fun c f q=>?_),hO.s,hO.t,(hO.m.andBelow hB2).andThen hg fun i e=>by cases e;exact .inl (Nat.le_refl _)⟩,?_⟩⟩
    ·rw [q4] at q
     injection q with q
     injection q with _ q _
     cases q
    ·rw [ett]
     exact (hOw.cells fun C h=>(hB2.block _ (Array.getElem?_eq_some_iff.1 h).1).trans h).set htj
   clear hO hOw ett ht
   go_wp2_with fail
   refine (HCT.out _).mono ?_
   rintro e w2 ⟨rfl,hB2⟩
   obtain ⟨⟨u2,x1⟩,x2,x3,x4⟩:=HNX.out w2 hB2
   have hs2:=hB2.size
   clear HNX HCT HOW HO hB2
   go_wp2_with fail
   obtain ⟨w3,hw3⟩:∃ w3,w2.setCell ⟨w.heap.size,j,none⟩ (.string t)=w3:=⟨_,rfl⟩
   rw [hw3] at x3 x4 ⊢
   clear hw3 x1 x2
   have hs3:=x3.m.size
   obtain ⟨e1,e2⟩:=(HW.out w3 x3.m).1
   have HAD:Hid (∀ W,Below w3.heap.size w3 W→Calls Tryz.prog 230 #[.map (some ib),.int .i64 (idn:Int),.slice qa kt.length qc] W fun e w'=>e=.returned (.tuple #[])∧∃ Y2,AdO B X Y (N+300*(j+1)) w w' Y2∧Ow w.heap.size tx (j+1) w'):=fun W hW=>by
    have hGW:=x3.g.below hW
    have hMW:=x3.m.andBelow hW
    have hsW:=hW.size
    refine (ixadd_any B X Y' (N+300*j) ib (idn:Int) 0 (.slice qa kt.length qc) kt W (by omega) hGW k2 hid (HW.out W hMW).2 k7 (by omega) KT).mono ?_
    rintro e w4 ⟨rfl,Y2,hA⟩
    refine ⟨rfl,Y2,⟨hA.g.mono (by omega),fun i q=>hA.s i (x3.s i q),fun i q=>?_,hMW.trans hA.m (fun _ q=>.inl q) (fun _ q=>.inl q) x3.t⟩,(x4.cells fun C h=>(hW.block _ (Array.getElem?_eq_some_iff.1 h).1).trans h).cells fun C h=>hA.m.cells h (by decide) (fun q=>q) (hGW.not_cells h).1 (hGW.not_cells h).2⟩
    rcases hA.t i q with q | q
    ·exact x3.t i q
    ·exact .inr (by omega)
   go_region_held3 (fun w'=>w'.cell? ⟨fb,15,none⟩=some (.map (some ib))∧w'.cell? ⟨gk,j,none⟩=some (.slice qa kt.length qc)) (first | exact hKW | go_keep) ((go_at_call 230;refine (HAD.out _ (Below.refl _ _).drew).mono ?_;rintro e w4 ⟨rfl,Y2,hA4,hO4⟩;have hKW:=(HW.out w4 hA4.m).1))
   go_wp2
   exact ⟨⟨j+1,Y2,by go_num,by omega,hA4,hO4⟩,by simp [intOf];omega⟩
  ·have hjI:¬ (j:Int)<(L.length:Int):=by omega
   obtain rfl:j=L.length:=by omega
   have hYm':¬ Y' m:=fun q=>by
    rcases hO.t m q with q | q
    ·exact hYm q
    ·obtain ⟨D,q2,_⟩:=hE.d.ex
     have:=q2.lt
     omega
   have hFk:Fok B (fun _=>False) X Y w:=⟨hE.p.1,fun i hi=>(hE.fok hG).k i (hi.elim (fun q=>q.elim) .inr)⟩
   have hK:=hO.m.kc hB hFk
   have hff:∀ f∈L,wr.heap[f.1]?=w.heap[f.1]?:=fun f hf=>by
    obtain ⟨cs,b1,_⟩:=(hE.f f hf).1.blk
    exact (hO.m.cells b1 (by decide) (fun q=>q) (hG.not_cells b1).1 (hG.not_cells b1).2).trans (Eq.symm b1)
   have hmm:wr.heap[m]?=w.heap[m]?:=by
    obtain ⟨D,⟨es,c,q2,_⟩,_⟩:=hE.d.ex
    exact hO.m.block m (Array.getElem?_eq_some_iff.1 q2).1 (fun q=>q) hE.p.2.2 hYm fun _ c f q3=>by rw [q2] at q3;cases q3
   have hEr:=hE.keep hK (fun _ q=>q) hE.p.2.2 hmm hff
   obtain ⟨D,hD,_⟩:=hEr.d.ex
   obtain ⟨g',cap',hb',_⟩:=hEr.e
   have cm:wr.cell? ⟨b,1,none⟩=some (.map (some m)):=blk_cell hb' 1
   have HFI:Hid (∀ w5,w5.ownsMap Tryz.prog 3 slE m (ds.length+1) (D.put (.int .i64 (idn:Int)) (.held (.slice (some ⟨w.heap.size,0,none⟩) tx.length tx.length)))→wr.grownBy w5 (some m)→Eng B b L m ds' X w5∧∃ Y',EaO B L m X Y (N+900) w w5 Y'):=fun w5 h5 hg5=>by
    have hmb:∃ es c,wr.heap[m]?=some (.map es c):=by
     obtain ⟨es,c,q,_⟩:=hD
     exact ⟨es,c,q⟩
    obtain ⟨es,c,hmb⟩:=hmb
    have hp:=hE.p
    have hM5:Mv B (EF L m) X Y w w5:=(hO.m.mono (F':=EF L m) (fun _ q=>q.elim) (fun _ q=>q) (fun _ q=>q)).andThen hg5 fun i e=>by
     injection e with e
     exact .inr (.inl (.inl e.symm))
    have hKd:Kd wr w5:=Kd.far hg5 fun i e=>by
     injection e with e
     subst e
     exact ⟨by omega,fun cs t f _ q=>by rw [hmb] at q;cases q⟩
    have hOm:Ow w.heap.size tx tx.length wr:=by
     have:=hOw
     rw [← HTL.out] at this
     exact this
    have hv5:w5.ownsRow 0 9 1 (.slice (some ⟨w.heap.size,0,none⟩) tx.length tx.length) tx.length (tx.map .string):=(hOm.full (by unfold maxLen;omega)).kept hg5 (.inr fun e=>by
     have:w.heap.size=m:=by simpa [Value.ownBlock] using e
     obtain ⟨D',q2,_⟩:=hE.d.ex
     have:=q2.lt
     omega)
    refine ⟨?_,Y',⟨?_,hO.s,hO.t,hM5⟩⟩
    ·obtain ⟨g2,cap2,q1,q2⟩:=hEr.e
     refine ⟨⟨g2,cap2,hKd.c _ _ _ _ (.inl rfl) q1,hKd.row q2 (.inr (.inl rfl))⟩,fun f hf=>?_,hEr.d.put HNO.out hD h5 hKd.a hv5 (fun g e hp=>by
      have:w.heap.size=g:=by simpa [Value.ownBlock] using e
      have:=HEX.out g hp
      omega) HDL.out HDM.out,hEr.p,hEr.n,hEr.l⟩
     obtain ⟨r1,r2,r3⟩:=hEr.f f hf
     refine ⟨r1.keep hKd.a fun i c t fz ht e=>?_,r2,r3⟩
     rcases ht with ⟨rfl,rfl⟩ | rfl | rfl
     ·exact (hg5.block f.1 (Array.getElem?_eq_some_iff.1 e).1 fun q=>by injection q with q;rw [q,hmb] at e;cases e).trans e
     ·exact hKd.c i c 189 fz (.inr (.inr (.inl rfl))) e
     ·exact hKd.c i c 194 fz (.inr (.inr (.inr rfl))) e
    ·exact (hO.g.far hg5 hp.2.2 hYm' fun c f q=>by rw [hmb] at q;cases q).mono (by omega)
   clear hE hEr hO hOw hG hK hff hmm hFk hb'
   go_wp2_with (at_mapUpdate;refine wpList_mapUpdate_own _ rfl _ _ _ 154 rfl 3 63 keyI Tryz.underlying154 slE m ds.length D rfl hD (by unfold maxLen;omega) _ _ _ rfl rfl (klI hid) (.held (.slice (some ⟨w.heap.size,0,none⟩) tx.length tx.length)) [] rfl ?_;intro w5 hown5 hgrow5;go_frame)
   go_end0
   exact ⟨rfl,HFI.out _ hown5 hgrow5⟩
end Go.Proofs.YtcmgclckknpecaaGreatDoor
namespace Go.Proofs.YtcmgclckknpecaaGreatDoor
open Go.RowKit Go.Maps Go.Shelf
namespace Pl
abbrev nid (id:Int) (ds:Dl):Dl:=ds.filter fun d=>!decide ((d.1:Int)=id)
theorem ins_done (d:Nat × List ByteArray):∀ l:Dl,ins d l true=nid (d.1:Int) l
 | []=>rfl
 | x :: r=>by
  rw [ins,nid,List.filter_cons]
  by_cases h:x.1=d.1
  ·simp [h]
   exact ins_done d r
  ·have h':¬ (x.1:Int)=(d.1:Int):=by omega
   simp [h,h']
   exact ins_done d r
theorem ins_perm (d:Nat × List ByteArray):∀ l:Dl,(ins d l false).Perm (d :: nid (d.1:Int) l)
 | []=>by simp [ins,nid]
 | x :: r=>by
  rw [ins]
  by_cases h:d.1≤x.1
  ·have e:nid (d.1:Int) (x :: r)=(if x.1≠d.1 then [x] else [])++nid (d.1:Int) r:=by
    rw [nid,List.filter_cons]
    by_cases h2:x.1=d.1
    ·simp [h2,nid]
    ·have h':¬ (x.1:Int)=(d.1:Int):=by omega
     simp [h2,h',nid]
   rw [e]
   simp only [h,decide_true,Bool.or_true,and_self,if_true,ins_done,List.cons_append,List.nil_append]
   exact List.Perm.refl _
  ·have h2:¬ x.1=d.1:=by omega
   have h':¬ (x.1:Int)=(d.1:Int):=by omega
   have e:nid (d.1:Int) (x :: r)=x :: nid (d.1:Int) r:=by rw [nid,List.filter_cons];simp [h',nid]
   rw [e]
   simp only [h,decide_false,Bool.or_false,and_false,if_false,List.nil_append,if_pos h2,ne_eq,List.cons_append]
   exact ((ins_perm d r).cons x).trans (List.Perm.swap _ _ _)
def putR (nf:Nat) (Cs:List (List Sp)) (ds:Dl) (id:Int) (tx:List ByteArray):Nat × Nat :=
 if id<0∨999<id∨tx.length≠nf then (4,0) else match tkE Cs tx 0 with | some p=>p | none=>if dhas id ds=false∧12≤ds.length then (6,0) else (0,0)
def putD (nf:Nat) (Cs:List (List Sp)) (ds:Dl) (id:Int) (tx:List ByteArray):Dl:=if putR nf Cs ds id tx=(0,0) then ins (id.toNat,tx) ds false else ds
theorem tkE_ne:∀ (Cs:List (List Sp)) (tx:List ByteArray) (i:Nat) (p:Nat × Nat),tkE Cs tx i=some p→p.1≠0
 | [],_,_,p,h=>by simp [tkE] at h
 | C :: Cs,[],_,p,h=>by simp [tkE] at h
 | C :: Cs,t :: ts,i,p,h=>by
  rw [tkE] at h
  split at h
  ·cases h;simp
  ·split at h
   ·cases h;simp
   ·exact tkE_ne Cs ts (i+1) p h
theorem tkE_sizes:∀ (Cs:List (List Sp)) (tx:List ByteArray) (i:Nat),tx.length=Cs.length→tkE Cs tx i=none→∀ t∈tx,t.size≤120
 | [],[],_,_,_=>by simp
 | [],t :: ts,_,h,_=>by simp at h
 | C :: Cs,[],_,h,_=>by simp at h
 | C :: Cs,t :: ts,i,h,e=>by
  rw [tkE] at e
  split at e
  ·cases e
  ·split at e
   ·cases e
   ·intro x hx
    rcases List.mem_cons.1 hx with rfl | hx
    ·omega
    ·exact tkE_sizes Cs ts (i+1) (by simpa using h) e x hx
end Pl
theorem Dnd.filter {id:Int} {ds:Dl} (h:Dnd ds):Dnd (Pl.nid id ds):=by
 unfold Dnd at h ⊢
 exact List.Nodup.sublist (List.Sublist.map _ List.filter_sublist) h
theorem Dnd.ins {d:Nat × List ByteArray} {ds:Dl} (h:Dnd ds):Dnd (Pl.ins d ds false):=by
 have hp:=(Pl.ins_perm d ds).map (·.1)
 unfold Dnd
 refine hp.nodup_iff.2 ?_
 rw [List.map_cons,List.nodup_cons]
 refine ⟨fun q=>?_,(h.filter)⟩
 obtain ⟨x,q1,q2⟩:=List.mem_map.1 q
 have:=(List.mem_filter.1 q1).2
 simp at this
 omega
theorem dhas_nid (id:Int) (ds:Dl):dhas id (Pl.nid id ds)=false:=by rw [dhas_filter];simp
structure PsO [Inhabited Exb] (B b:Nat) (L:List Fe) (m:Nat) (ds:Dl) (X Y:Nat→Prop) (N:Nat) (w:World) (w':World) (Y':Nat→Prop):Prop where
 e:Eng B b L m ds X w'
 a:EaO B L m X Y N w w' Y'
set_option maxRecDepth 100000 in
set_option maxHeartbeats 4000000 in
theorem eput_any [Inhabited Exb] (B b:Nat) (L:List Fe) (m:Nat) (ds:Dl) (X Y:Nat→Prop) (N:Nat) (id:Int) (tx:List ByteArray) (ta:Option Addr) (ga:Addr) (tc:Nat) (w:World) (hE:Eng B b L m ds X w) (hG:Gl B X Y N w) (hB:B≤w.heap.size) (hYm:¬ Y m) (HEN:Hid (Ends w)) (hN:N≤4611686018427380000) (HEX:Hid (∀ k,(default:Exb).p k→k<w.heap.size)) (hid:(Lit.int .i64 id).wf=true) (hn:Dnd ds) (hdl:ds.length≤12)
  (hT:TxA ga tx w) (hta:0<tx.length→ta=some ga) (hgt:0<tx.length→Tlw B ga w) (htl:tx.length≤9223372036854775807) (r:Nat × Nat) (HR:Hid (Pl.putR L.length (L.map fun f=>Pl.chOf f.2.1) ds id tx=r)) :
  Calls Tryz.prog 85 #[.pointer (some ⟨b,0,none⟩),.int .i64 id,.slice ta tx.length tc] w fun e w'=>e=.returned (.tuple #[.int .i64 (r.1:Int),.int .i64 (r.2:Int)])∧∃ Y',PsO B b L m (Pl.putD L.length (L.map fun f=>Pl.chOf f.2.1) ds id tx) X Y (N+900) w w' Y':=by
 obtain ⟨f,at_⟩:=r
 have hl3:=hE.l.2
 have HRU:Hid (PsO B b L m ds X Y (N+900) w w Y):=⟨hE,hG.mono (by omega),fun _ q=>q,fun _ q=>.inl q,Mv.refl _ _ _ _ _⟩
 obtain ⟨g,cap,h1,_⟩:=hE.e
 have c0:w.cell? ⟨b,0,none⟩=some (.slice (some ⟨g,0,none⟩) L.length cap):=blk_cell h1 0
 by_cases hbad:id<0∨999<id∨tx.length≠L.length
 ·have hr:(f,at_)=(4,0):=by rw [← HR.out,Pl.putR,if_pos hbad]
  have HD:Hid (Pl.putD L.length (L.map fun f=>Pl.chOf f.2.1) ds id tx=ds):=by
   show _=_
   rw [Pl.putD,HR.out,hr,if_neg (by simp)]
  injection hr with hr1 hr2
  subst hr1 hr2
  clear HR
  by_cases b1:id<0
  ·clear hbad
   go_enter Tryz.func85,Tryz.ntmps85
   go_wp2_with fail
   go_ret2
   exact ⟨rfl,Y,by rw [HD.out];exact HRU.out⟩
  ·by_cases b2:999<id
   ·clear hbad
    go_enter Tryz.func85,Tryz.ntmps85
    go_wp2_with fail
    go_ret2
    exact ⟨rfl,Y,by rw [HD.out];exact HRU.out⟩
   ·have b3:¬ (tx.length:Int)=(L.length:Int):=by omega
    clear hbad
    go_enter Tryz.func85,Tryz.ntmps85
    go_wp2_with fail
    go_ret2
    exact ⟨rfl,Y,by rw [HD.out];exact HRU.out⟩
 ·have b1:¬ id<0:=fun q=>hbad (.inl q)
  have b2:¬ 999<id:=fun q=>hbad (.inr (.inl q))
  have HTL:Hid (tx.length=L.length):=Classical.byContradiction fun q=>hbad (.inr (.inr q))
  have HR2:Hid ((match Pl.tkE (L.map fun f=>Pl.chOf f.2.1) tx 0 with | some p=>p | none=>if dhas id ds=false∧12≤ds.length then ((6,0):Nat × Nat) else (0,0))=(f,at_)):=by
   have:=HR.out
   rw [Pl.putR,if_neg hbad] at this
   exact this
  have b3:(tx.length:Int)=(L.length:Int):=by have:=HTL.out;omega
  have hdec:((tx.length:Int) == (L.length:Int))=true:=by simp [b3]
  have HTK:Hid (Calls Tryz.prog 148 #[.pointer (some ⟨b,0,none⟩),.slice ta tx.length tc] w fun e w'=>TlO B b L m ds X Y N tx w e w'):=etake_any B b L m ds X Y N tx ta ga tc w hE hG hB HEN HTL hT hta hgt
  clear hbad b3
  go_enter Tryz.func85,Tryz.ntmps85
  go_wp2_with fail
  refine HTK.out.mono ?_
  rintro e w1 hO
  have hE1:=hO.n
  have hG1:=hO.g
  have hM1:=hO.m
  rcases hO.r with ⟨f',at',hf0,hk,rfl⟩ | ⟨v,us,hk,rfl,hul,hTk⟩
  ·have hr:(f',at')=(f,at_):=by have:=HR2.out;rw [hk] at this;exact this
   injection hr with hr1 hr2
   subst hr1 hr2
   have HFI:Hid (∃ Y',PsO B b L m (Pl.putD L.length (L.map fun f=>Pl.chOf f.2.1) ds id tx) X Y (N+900) w w1 Y'):=by
    refine ⟨Y,?_,hG1.mono (by omega),fun _ q=>q,fun _ q=>.inl q,hM1⟩
    rw [Pl.putD,HR.out,if_neg (by simp [hf0])]
    exact hE1
   have hfI:¬ (f':Int)=0:=by omega
   clear hO hE1 hG1 hM1 HR HR2 HTK hk HRU
   go_wp2_with fail
   go_ret2
   exact ⟨rfl,HFI.out⟩
  ·rw [hk] at HR2
   obtain ⟨va,vc,rfl⟩:=hTk.form hul
   obtain ⟨R,hR⟩:∃ R,dhas id ds=R:=⟨_,rfl⟩
   have HHS:Hid (Calls Tryz.prog 52 #[.pointer (some ⟨b,0,none⟩),.int .i64 id] w1 fun e w'=>e=.returned (.bool R)∧Below w1.heap.size w1 w'):=has_any B b L m ds X id w1 hE1 hid R hR
   have hB1:B≤w1.heap.size:=by have:=hM1.size;omega
   have hw1:=hM1.size
   have HK1:Hid (Kc B w w1):=hM1.kc hB (hE.fok hG)
   obtain ⟨idn,rfl⟩:∃ idn:Nat,id=(idn:Int):=⟨id.toNat,by omega⟩
   have HGO:Hid (∀ w2,Below w1.heap.size w1 w2→Calls Tryz.prog 149 #[.pointer (some ⟨b,0,none⟩),.int .i64 (idn:Int)] w2 fun e w3=>e=.returned (.tuple #[])∧Calls Tryz.prog 150 #[.pointer (some ⟨b,0,none⟩),.int .i64 (idn:Int),.slice ta tx.length tc,.slice va tx.length vc] w3 fun e w4=>e=.returned (.tuple #[])∧∃ Y',PsO B b L m (Pl.ins (idn,tx) ds false) X Y (N+900) w w4 Y'):=fun w2 hB2=>by
    have hs2:=hB2.size
    have hE2:=hE1.below hB1 hB2
    have hG2:=hG1.below hB2
    refine (edrop_any B b L m ds X Y N (idn:Int) w2 hE2 hG2 (by omega) hYm hn hid).mono ?_
    rintro e w3 ⟨rfl,hD3⟩
    refine ⟨rfl,?_⟩
    have hK3:Kc B w1 w3:=(Kc.below hB1 hB2).trans (hD3.m.kc (by omega) (hE2.fok hG2))
    have hs3:=hD3.m.size
    have hT3:TxA ga tx w3:=⟨fun i hi=>((hgt (by omega)).cell (HK1.out.trans hK3) i).trans (hT.c i hi)⟩
    have hp:=Pl.ins_perm (idn,tx) ds
    have hsub:(Pl.nid (idn:Int) ds).length≤ds.length:=List.length_filter_le _ _
    refine (eadd_any B b L m (Pl.nid (idn:Int) ds) (Pl.ins (idn,tx) ds false) X Y N idn tx ta ga tc _ (.slice va tx.length vc) us w3 hD3.e hD3.g (by omega) hYm hN (fun k hk=>by have:=HEX.out k hk;omega) hid HTL hT3 hta (fun h=>(hgt h).kc (HK1.out.trans hK3)) (Pl.tkE_sizes _ tx 0 (by rw [List.length_map];exact HTL.out) hk) (hTk.keep fun g cs t ht e=>hK3.c g cs t (0,0) (by rintro rfl;simp at ht) (by rintro rfl;simp at ht) e) hul (dhas_nid _ _) (by omega) hp.length_eq (fun d=>?_)).mono ?_
    ·rw [hp.mem_iff,List.mem_cons]
    ·rintro e w4 ⟨rfl,h4,Y',hA⟩
     refine ⟨rfl,Y',h4,hA.g,hA.s,fun i q=>?_,((hM1.andBelow hB2).trans hD3.m (fun _ q=>.inl q) (fun _ q=>.inl q) (fun _ q=>.inl q)).trans hA.m (fun _ q=>.inl q) (fun _ q=>.inl q) (fun _ q=>.inl q)⟩
     rcases hA.t i q with q | q
     ·exact .inl q
     ·exact .inr (by omega)
   obtain ⟨g',cap',q1,_⟩:=hE1.e
   obtain ⟨D,hD,hDs,_⟩:=hE1.d.ex
   have HCM:Hid (∀ w2,Below w1.heap.size w1 w2→w2.cell? ⟨b,1,none⟩=some (.map (some m))∧w2.ownsMap Tryz.prog 3 slE m ds.length D):=fun w2 hB2=>⟨blk_cell (q1.below hB2) 1,hD.kept (grown_of_below none hB2) (by simp)⟩
   have HDS:Hid (Maps.size D=ds.length):=hDs
   have HPD:Hid (∀ w4,(∃ Y',PsO B b L m (Pl.ins (idn,tx) ds false) X Y (N+900) w w4 Y')→(f,at_)=(0,0)→∃ Y',PsO B b L m (Pl.putD L.length (L.map fun f=>Pl.chOf f.2.1) ds (idn:Int) tx) X Y (N+900) w w4 Y'):=fun w4 h hz=>by
    rw [Pl.putD,HR.out,if_pos hz]
    exact h
   have HRU2:Hid (∀ w2,Below w1.heap.size w1 w2→(f,at_)≠(0,0)→∃ Y',PsO B b L m (Pl.putD L.length (L.map fun f=>Pl.chOf f.2.1) ds (idn:Int) tx) X Y (N+900) w w2 Y'):=fun w2 hB2 hz=>by
    rw [Pl.putD,HR.out,if_neg hz]
    exact ⟨Y,hE1.below hB1 hB2,(hG1.below hB2).mono (by omega),fun _ q=>q,fun _ q=>.inl q,hM1.andBelow hB2⟩
   clear hO hE1 hG1 hM1 HR HTK hk HRU hTk hE hG hT hta hgt q1 hD hDs h1 c0
   cases R with
   | true =>
    have hz:(f,at_)=(0,0):=by
     have:=HR2.out
     simp only [hR] at this
     exact this.symm
    injection hz with hz1 hz2
    subst hz1 hz2
    clear hR HR2 HCM HDS
    go_wp2_with fail
    refine HHS.out.mono ?_
    rintro e w2 ⟨rfl,hB2⟩
    go_wp2_with fail
    refine (HGO.out w2 hB2).mono ?_
    rintro e w3 ⟨rfl,hc⟩
    have HC:Hid (Calls Tryz.prog 150 #[.pointer (some ⟨b,0,none⟩),.int .i64 (idn:Int),.slice ta tx.length tc,.slice va tx.length vc] w3 fun e w4=>e=.returned (.tuple #[])∧∃ Y',PsO B b L m (Pl.ins (idn,tx) ds false) X Y (N+900) w w4 Y'):=hc
    clear hc
    go_wp2_with fail
    refine HC.out.mono ?_
    rintro e w4 ⟨rfl,h4⟩
    have HF4:Hid (∃ Y',PsO B b L m (Pl.putD L.length (L.map fun f=>Pl.chOf f.2.1) ds (idn:Int) tx) X Y (N+900) w w4 Y'):=HPD.out w4 h4 (by simp)
    clear h4 HC HPD HRU2 HGO
    go_wp2_with fail
    go_ret2
    exact ⟨rfl,HF4.out⟩
   | false =>
    by_cases hfull:ds.length=12
    ·have hz:(f,at_)=(6,0):=by
      have:=HR2.out
      simp only [hR,hfull] at this
      exact this.symm
     injection hz with hz1 hz2
     subst hz1 hz2
     have HSD:Hid (Maps.size D=12):=by show _=_;rw [HDS.out];exact hfull
     clear hR HR2 HDS
     go_wp2_with fail
     refine HHS.out.mono ?_
     rintro e w2 ⟨rfl,hB2⟩
     obtain ⟨m1,m2⟩:=HCM.out w2 hB2
     have HF2:Hid (∃ Y',PsO B b L m (Pl.putD L.length (L.map fun f=>Pl.chOf f.2.1) ds (idn:Int) tx) X Y (N+900) w w2 Y'):=HRU2.out w2 hB2 (by simp)
     have hlen:∀ ty,(Builtin.len_ #[154] ty #[.map (some m)]).run Tryz.prog w2=.ok (.int .i64 12) w2:=fun ty=>by
      have:=m2.len Tryz.underlying154 ty
      rw [HSD.out] at this
      exact this
     clear HCM HRU2 HPD HGO hfull m2
     go_wp2_with fail
     go_ret2
     exact ⟨rfl,HF2.out⟩
    ·have hz:(f,at_)=(0,0):=by
      have:=HR2.out
      rw [hR] at this
      simp only [true_and] at this
      rw [if_neg (by omega)] at this
      exact this.symm
     injection hz with hz1 hz2
     subst hz1 hz2
     have hsD:¬ (ds.length:Int)=12:=by omega
     clear hR HR2
     go_wp2_with fail
     refine HHS.out.mono ?_
     rintro e w2 ⟨rfl,hB2⟩
     obtain ⟨m1,m2⟩:=HCM.out w2 hB2
     have hlen:∀ ty,(Builtin.len_ #[154] ty #[.map (some m)]).run Tryz.prog w2=.ok (.int .i64 (ds.length:Int)) w2:=fun ty=>by
      have:=m2.len Tryz.underlying154 ty
      rw [HDS.out] at this
      exact this
     clear HCM HRU2 hfull m2
     go_wp2_with fail
     refine (HGO.out w2 hB2).mono ?_
     rintro e w3 ⟨rfl,hc⟩
     have HC:Hid (Calls Tryz.prog 150 #[.pointer (some ⟨b,0,none⟩),.int .i64 (idn:Int),.slice ta tx.length tc,.slice va tx.length vc] w3 fun e w4=>e=.returned (.tuple #[])∧∃ Y',PsO B b L m (Pl.ins (idn,tx) ds false) X Y (N+900) w w4 Y'):=hc
     clear hc
     go_wp2_with fail
     refine HC.out.mono ?_
     rintro e w4 ⟨rfl,h4⟩
     have HF4:Hid (∃ Y',PsO B b L m (Pl.putD L.length (L.map fun f=>Pl.chOf f.2.1) ds (idn:Int) tx) X Y (N+900) w w4 Y'):=HPD.out w4 h4 (by simp)
     clear h4 HC HPD HGO
     go_wp2_with fail
     go_ret2
     exact ⟨rfl,HF4.out⟩
end Go.Proofs.YtcmgclckknpecaaGreatDoor
