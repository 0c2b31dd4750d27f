import Derived.Test.YtcmgclckknpecaaGreatDoorKbs
namespace Go.Proofs.YtcmgclckknpecaaGreatDoor
open Go.RowKit Go.Maps Go.Shelf
theorem PutO.one {d base:Nat} {v0 v1 v2:Value} {nf:Nat} {Cs:List (List Sp)} {ds:Dl} {id:Int} {tx:List ByteArray} {w:World} {e:Ending} {w':World} (h:PutO d base v0 v1 v2 nf Cs ds id tx w e w') (hl:ds.length≤12) :
  e=.returned (.tuple #[.int .i64 ((Pl.putR nf Cs ds id tx).1:Int),.int .i64 ((Pl.putR nf Cs ds id tx).2:Int)])∧w.grownBy w' (some d)∧∃ v2' base',Dg d v0 v1 v2' w'∧Ds base' v2' (Pl.putD nf Cs ds id tx) w':=by
 obtain ⟨f,at_,rfl,hg,h⟩:=h.ex
 have key:(f,at_)=Pl.putR nf Cs ds id tx∧((f≠0∧Dg d v0 v1 v2 w'∧Ds base v2 ds w')∨(f=0∧at_=0∧∃ v2',Dg d v0 v1 v2' w'∧Ds w.heap.size v2' (Pl.ins (id.toNat,tx) ds false) w')):=by
  rcases h with ⟨h1,h2,h3,h4⟩ | ⟨h1,h2,h3,h4,h5,h6,h7,h8⟩
  ·refine ⟨?_,.inl ⟨h1,h2,h3⟩⟩
   unfold Pl.putR
   rcases h4 with ⟨e1,e2,e3⟩ | ⟨e1,e2,e3,e4⟩
   ·rw [if_pos e3,e1,e2]
   ·rw [if_neg (by omega)]
    rcases e4 with e4 | ⟨e4,e5,e6,e7,e8⟩
    ·rw [e4]
    ·rw [e4]
     simp only
     rw [if_pos ⟨(Pl.dix_dhas id ds).1 e7,e8⟩,e5,e6]
  ·refine ⟨?_,.inr ⟨h1,h2,h8⟩⟩
   unfold Pl.putR
   rw [if_neg (by omega),h6]
   simp only
   rw [if_neg ?_,h1,h2]
   rintro ⟨q1,q2⟩
   rcases h7 with h7 | h7
   ·exact h7 ((Pl.dix_dhas id ds).2 q1)
   ·omega
 obtain ⟨k1,k2⟩:=key
 refine ⟨by rw [← k1],hg,?_⟩
 rcases k2 with ⟨h1,h2,h3⟩ | ⟨h1,h2,v2',h3,h4⟩
 ·refine ⟨v2,base,h2,?_⟩
  rw [Pl.putD,if_neg (by rw [← k1];simp [h1])]
  exact h3
 ·refine ⟨v2',w.heap.size,h3,?_⟩
  rw [Pl.putD,if_pos (by rw [← k1,h1,h2])]
  exact h4
theorem Dnd.put {nf:Nat} {Cs:List (List Sp)} {ds:Dl} {id:Int} {tx:List ByteArray} (h:Dnd ds) (hl:ds.length≤12):Dnd (Pl.putD nf Cs ds id tx)∧(Pl.putD nf Cs ds id tx).length≤12:=by
 unfold Pl.putD
 split
 ·rename_i hr
  refine ⟨h.ins,?_⟩
  have hp:=(Pl.ins_perm (id.toNat,tx) ds).length_eq
  unfold Pl.putR at hr
  split at hr
  ·cases hr
  ·rename_i hbad
   have hid:((id.toNat:Nat):Int)=id:=by omega
   have hf:=filter_len id ds h
   simp only [hid,List.length_cons] at hp
   split at hr
   ·rename_i p hp'
    exact absurd (congrArg Prod.fst hr) (Pl.tkE_ne _ _ _ _ hp')
   ·split at hr
    ·cases hr
    ·rename_i hno
     have hp2:(Pl.ins (id.toNat,tx) ds false).length=(Pl.nid id ds).length+1:=hp
     by_cases hd:dhas id ds=true
     ·rw [if_pos hd] at hf
      have:(Pl.nid id ds).length+1=ds.length:=hf
      omega
     ·have hd':dhas id ds=false:=by simpa using hd
      rw [if_neg hd] at hf
      have:(Pl.nid id ds).length=ds.length:=hf
      have:¬ 12≤ds.length:=fun q=>hno ⟨hd',q⟩
      omega
 ·exact ⟨h,hl⟩
theorem Eng.kch {B b:Nat} {L:List Fe} {m:Nat} {ds:Dl} {X:Nat→Prop} {w:World} (h:Eng B b L m ds X w):∀ C∈L.map (fun f=>Pl.chOf f.2.1),Kch C:=fun C hC=>by
 obtain ⟨f,hf,rfl⟩:=List.mem_map.1 hC
 obtain ⟨_,es,cu,ls,hT,_⟩:=(h.f f hf).1.ex
 refine ⟨fun q hq=>?_,?_,?_⟩
 ·rw [hT.t] at hq
  rcases List.mem_append.1 hq with hq | hq
  ·exact (kst_E hT.z (hT.e q hq)).1
  ·rcases List.mem_cons.1 hq with rfl | hq
   ·exact (kst_C hT.z hT.c).1
   ·exact (kst_L hT.z (hT.l q hq)).1
 ·rw [hT.t]
  have:=hT.n
  simp
  omega
 ·rw [hT.t]
  have:=Pl.ec_take cu ls (kst_C hT.z hT.c).2.1 (fun l hl=>(kst_L hT.z (hT.l l hl)).2) es
  have:=hT.n
  omega
def Pq.set (q:Pq) (ds:Dl):Pq:={ q with ds:=ds }
def PF (q:Pq) (i:Nat):Prop:=EF q.L q.m i∨i=q.d
structure SpO (B:Nat) (fs:List (ByteArray × ByteArray)) (X Y:Nat→Prop) (N:Nat) (q:Pq) (w w':World) (ds':Dl) (Y':Nat→Prop):Prop where
 p:Pr B fs X (q.set ds') w'
 g:Gl B X Y' N w'
 s:∀ i,Y i→Y' i
 t:∀ i,Y' i→Y i∨w.heap.size≤i
 m:Mv B (PF q) X Y w w'
theorem Pr.both {B:Nat} {fs:List (ByteArray × ByteArray)} {X Y Y':Nat→Prop} {N:Nat} {q:Pq} {w w2 w3:World} {ds':Dl} {v0 v1 v2':Value} {base':Nat} (h:Pr B fs X q w) (hB:B≤w.heap.size) (hG:Gl B X Y N w) (hE:Eng B q.b q.L q.m ds' X w2) (hA:EaO B q.L q.m X Y (N+900) w w2 Y') (hg:w2.grownBy w3 (some q.d)) (hD:Dg q.d v0 v1 v2' w3) (hDs:Ds base' v2' ds' w3) (hv:∃ v2,Dg q.d v0 v1 v2 w2) (hn:Dnd ds'∧ds'.length≤12):SpO B fs X Y (N+900) q w w3 ds' Y':=by
 have hp:=h.e.p
 have hd:=h.d
 have hK2:=hA.m.kc hB (h.e.fok hG)
 have hR2:=h.r.kc hK2
 obtain ⟨_,cs,hdb⟩:=hR2.lt
 have hd0:q.d≠0:=by omega
 have ne:∀ {k:Nat} {cs':Array Value} {t':TypeId} {f':Nat × Nat},w2.heap[k]?=some (.cells cs' t' f')→t'≠62→w3.heap[k]?=some (.cells cs' t' f'):=fun {k cs' t' f'} e h=>(hg.block k (Array.getElem?_eq_some_iff.1 e).1 fun q=>by
  injection q with q
  subst q
  rw [hdb] at e
  injection e with e
  injection e with _ e _
  exact h e.symm).trans e
 refine ⟨⟨hE.keepd (Kd.far hg fun i e=>?_) (fun _ q=>q) hE.p.2.2 ?_ fun f hf=>.inl ?_,h.l,?_,h.d,hn⟩,?_,hA.s,hA.t,(hA.m.mono (F':=PF q) (fun _ q=>.inl q) (fun _ q=>q) (fun _ q=>q)).andThen hg fun i e=>?_⟩
 ·injection e with e
  subst e
  refine ⟨hd0,fun cs' t' f' ht' e'=>?_⟩
  rw [hdb] at e'
  injection e' with e'
  injection e' with _ e' _
  subst e'
  simp at ht'
 ·obtain ⟨D,⟨es,c,q1,_⟩,_⟩:=hE.d.ex
  refine hg.block _ (Array.getElem?_eq_some_iff.1 q1).1 fun q=>?_
  injection q with q
  rw [q,hdb] at q1
  cases q1
 ·obtain ⟨cs',q1,_⟩:=(hE.f f hf).1.blk
  exact (ne q1 (by decide)).trans (Eq.symm q1)
 ·obtain ⟨fa,fc,v1',v2,base,b2,g1,g2,g3⟩:=hR2.ex
  obtain ⟨v2o,hvo⟩:=hv
  have e0:=hvo.b
  rw [g1.b] at e0
  injection e0 with e0
  injection e0 with e0 _ _
  have e1:Value.slice fa fs.length fc=v0∧v1'=v1:=by
   simp at e0
   exact ⟨e0.1,e0.2.1⟩
  refine ⟨fa,fc,v1,v2',base',b2,e1.1 ▸ hD,?_,hDs⟩
  rw [← e1.2]
  exact g2.far ⟨fun g cur t ht e=>ne e (by rintro rfl;simp at ht)⟩ fun xs n hr=>row_keep hr fun g cur _ e=>ne e (by decide)
 ·exact hA.g.far hg (hA.g.not_cells hdb).1 (hA.g.not_cells hdb).2 fun c f q=>by
   rw [hdb] at q
   injection q with q
   injection q with _ q _
   cases q
 ·injection e with e
  exact .inr (.inl (.inr e.symm))
theorem Blk.other {w w':World} {d k:Nat} {cs cs':Array Value} {t t':TypeId} {f:Nat × Nat} (h:Blk k t' cs' w) (hg:w.grownBy w' (some d)) (hd:w.heap[d]?=some (.cells cs t f)) (ht:t'≠t):Blk k t' cs' w':=(hg.block k h.lt fun q=>by
 injection q with q
 subst q
 rw [show w.heap[k]?=_ from h] at hd
 injection hd with hd
 injection hd with _ hd _
 exact ht hd).trans h
theorem SpO.base {B:Nat} {fs:List (ByteArray × ByteArray)} {X Y Y':Nat→Prop} {N:Nat} {q:Pq} {w W w':World} {ds':Dl} (h:SpO B fs X Y N q W w' ds' Y') (hb:Below w.heap.size w W):SpO B fs X Y N q w w' ds' Y' :=
 ⟨h.p,h.g,h.s,fun i hi=>(h.t i hi).imp id fun q=>Nat.le_trans hb.size q,(Mv.below hb).trans h.m (fun _ q=>.inl q) (fun _ q=>.inl q) (fun _ q=>.inl q)⟩
set_option maxRecDepth 100000 in
set_option maxHeartbeats 8000000 in
theorem step_put (B pp:Nat) (fs:List (ByteArray × ByteArray)) (X Y:Nat→Prop) (N:Nat) (q:Pq) (fv:Value) (wi id sz ct:Int) (tx:List ByteArray) (ta:Option Addr) (ga:Addr) (tc:Nat) (qs fl:ByteArray) (w:World) (hPr:Pr B fs X q w) (hG:Gl B X Y N w) (hB:B≤w.heap.size) (hYm:¬ Y q.m) (HEN:Hid (Ends w)) (hN:N≤4611686018427380000) (hid:(Lit.int .i64 id).wf=true) (hpp:Blk pp 50 #[.pointer (some ⟨q.b,0,none⟩),.pointer (some ⟨q.d,0,none⟩)] w)
  (hT:TxA ga tx w) (hta:0<tx.length→ta=some ga) (hgt:0<tx.length→∀ j,(ga.add j).block<B) (htl:tx.length≤9223372036854775807) :
  Calls Tryz.prog 43 #[.pointer (some ⟨pp,0,none⟩),fv,.agg #[.int .i64 1,.int .i64 wi,.int .i64 id,.slice ta tx.length tc,.string qs,.string fl,.int .i64 sz,.int .i64 ct]] w fun e w'=>e=.returned (.bool true)∧∃ ds' Y',SpO B fs X Y (N+900) q w w' ds' Y':=by
 obtain ⟨wa,hwa⟩:∃ wa,w.alloc (.cells #[.int .i64 1,.int .i64 wi,.int .i64 id,.slice ta tx.length tc,.string qs,.string fl,.int .i64 sz,.int .i64 ct] 69)=wa:=⟨_,rfl⟩
 have hBa:Below w.heap.size w wa:=by rw [← hwa];exact (Below.refl _ _).alloc (Nat.le_refl _) _
 have hob:Blk w.heap.size 69 #[.int .i64 1,.int .i64 wi,.int .i64 id,.slice ta tx.length tc,.string qs,.string fl,.int .i64 sz,.int .i64 ct] wa:=by rw [← hwa];exact heap_alloc_new w _
 have hsa:=hBa.size
 have hPa:=hPr.below hB hBa
 have hGa:=hG.below hBa
 have hppa:=hpp.below hBa
 have hTa:TxA ga tx wa:=⟨fun i hi=>((hBa.mono hB).cell (p:=ga.add i) (hgt (by omega) i)).trans (hT.c i hi)⟩
 have hll:q.L.length=fs.length:=by rw [← hPr.l];simp
 have hcs:(q.L.map fun f=>Pl.chOf f.2.1)=fs.map Pl.chOf:=by rw [← hPr.l];simp
 obtain ⟨r,hr⟩:∃ r,Pl.putR fs.length (fs.map Pl.chOf) q.ds id tx=r:=⟨_,rfl⟩
 have HSP:Hid (∀ W,Below wa.heap.size wa W→Calls Tryz.prog 85 #[.pointer (some ⟨q.b,0,none⟩),.int .i64 id,.slice ta tx.length tc] W fun e w2=>e=.returned (.tuple #[.int .i64 (r.1:Int),.int .i64 (r.2:Int)])∧(Blk w.heap.size 69 #[.int .i64 1,.int .i64 wi,.int .i64 id,.slice ta tx.length tc,.string qs,.string fl,.int .i64 sz,.int .i64 ct] w2∧Blk pp 50 #[.pointer (some ⟨q.b,0,none⟩),.pointer (some ⟨q.d,0,none⟩)] w2) ∧
   ∀ W2,Below w2.heap.size w2 W2→Calls Tryz.prog 86 #[.pointer (some ⟨q.d,0,none⟩),.int .i64 id,.slice ta tx.length tc] W2 fun e w3=>e=.returned (.tuple #[.int .i64 (r.1:Int),.int .i64 (r.2:Int)])∧(Blk w.heap.size 69 #[.int .i64 1,.int .i64 wi,.int .i64 id,.slice ta tx.length tc,.string qs,.string fl,.int .i64 sz,.int .i64 ct] w3∧Blk pp 50 #[.pointer (some ⟨q.b,0,none⟩),.pointer (some ⟨q.d,0,none⟩)] w3)∧∃ ds' Y',SpO B fs X Y (N+900) q w w3 ds' Y'):=fun W hW=>by
  have hsW:=hW.size
  have hPW:=hPa.below (by omega) hW
  have hGW:=hGa.below hW
  have hKw:Kc B w W:=(Kc.below hB hBa).trans (Kc.below (by omega) hW)
  have hTW:TxA ga tx W:=⟨fun i hi=>(hKw.b.cell (p:=ga.add i) (hgt (by omega) i)).trans (hT.c i hi)⟩
  refine (eput_any B q.b q.L q.m q.ds X Y N id tx ta ga tc W hPW.e hGW (by omega) hYm (HEN.out.agr (hKw.agr hPW.e.p.1)) hN hid hPW.n.1 hPW.n.2 hTW hta hgt htl r (by rw [hll,hcs];exact hr)).mono ?_
  rintro e w2 ⟨rfl,Y',hps⟩
  rw [hll,hcs] at hps
  have hK2:=hps.a.m.kc (by omega) (hPW.e.fok hGW)
  have hs2:=hps.a.m.size
  have ho2:Blk w.heap.size 69 #[.int .i64 1,.int .i64 wi,.int .i64 id,.slice ta tx.length tc,.string qs,.string fl,.int .i64 sz,.int .i64 ct] w2:=hK2.c _ _ _ _ (by decide) (by decide) (hob.below hW)
  have hp2:Blk pp 50 #[.pointer (some ⟨q.b,0,none⟩),.pointer (some ⟨q.d,0,none⟩)] w2:=hK2.c _ _ _ _ (by decide) (by decide) (hppa.below hW)
  refine ⟨rfl,⟨ho2,hp2⟩,fun W2 hW2=>?_⟩
  have hsW2:=hW2.size
  have hK2':=hK2.trans (Kc.below (by omega) hW2)
  have hR2:=hPW.r.kc hK2'
  obtain ⟨fa,fc,v1,v2,base,b2,g1,g2,g3⟩:=hR2.ex
  have hT2:TxA ga tx W2:=⟨fun i hi=>(hK2'.b.cell (p:=ga.add i) (hgt (by omega) i)).trans (hTW.c i hi)⟩
  have hl3:=hPW.e.l.2
  refine (rput_any q.d base v1 v2 fa fs.length fc (fs.map Pl.chOf) q.ds id tx ta ga tc W2 g1 g3 g2.chs (by rw [← hcs];exact hPW.e.kch) (by show _=_;simp) (by omega) hPW.n.2 hT2 hta (fun h j=>by have:=hgt h j;omega)).mono ?_
  rintro e w3 hO
  obtain ⟨he,hg3,v2',base',hD3,hDs3⟩:=hO.one hPW.n.2
  rw [hr] at he
  refine ⟨he,⟨(ho2.below hW2).other hg3 g1.b (by decide),(hp2.below hW2).other hg3 g1.b (by decide)⟩,Pl.putD fs.length (fs.map Pl.chOf) q.ds id tx,Y',?_⟩
  refine (Pr.both hPW (by omega) hGW (hps.e.below (by omega) hW2) ⟨hps.a.g.below hW2,hps.a.s,hps.a.t,hps.a.m.andBelow hW2⟩ hg3 hD3 hDs3 ⟨_,g1⟩ (hPW.n.1.put hPW.n.2)).base (hBa.trans (hW.mono hsa))
 have HOB:Hid (∀ W,Below wa.heap.size wa W→Blk w.heap.size 69 #[.int .i64 1,.int .i64 wi,.int .i64 id,.slice ta tx.length tc,.string qs,.string fl,.int .i64 sz,.int .i64 ct] W∧Blk pp 50 #[.pointer (some ⟨q.b,0,none⟩),.pointer (some ⟨q.d,0,none⟩)] W):=fun W hW=>⟨hob.below hW,hppa.below hW⟩
 obtain ⟨qb,hqb⟩:∃ qb,q.b=qb:=⟨_,rfl⟩
 obtain ⟨qd,hqd⟩:∃ qd,q.d=qd:=⟨_,rfl⟩
 rw [hqb,hqd] at HSP HOB hppa
 have a0:wa.cell? ⟨w.heap.size,0,none⟩=some (.int .i64 1):=blk_cell hob 0
 have a2:wa.cell? ⟨w.heap.size,2,none⟩=some (.int .i64 id):=blk_cell hob 2
 have a3:wa.cell? ⟨w.heap.size,3,none⟩=some (.slice ta tx.length tc):=blk_cell hob 3
 have b0:wa.cell? ⟨pp,0,none⟩=some (.pointer (some ⟨qb,0,none⟩)):=blk_cell hppa 0
 obtain ⟨r1,r2⟩:=r
 clear hPa hGa hTa hPr hG hpp hT hll hcs hqb hqd hr
 go_enter Tryz.func43,Tryz.ntmps43
 go_wp2_with fail
 clear hwa
 go_region_held3 (fun w'=>w'.cell? ⟨pp,0,none⟩=some (.pointer (some ⟨qb,0,none⟩))∧w'.cell? ⟨w.heap.size,2,none⟩=some (.int .i64 id)∧w'.cell? ⟨w.heap.size,3,none⟩=some (.slice ta tx.length tc)) (first | exact ⟨blk_cell hp2 0,blk_cell ho2 2,blk_cell ho2 3⟩ | go_keep) ((go_at_call 85;refine (HSP.out _ (Below.refl _ _).drew).mono ?_;rintro e w2 ⟨rfl,⟨ho2,hp2⟩,hc2⟩;have HC2:Hid _:=hc2;clear hc2))
 have d2:w2.cell? ⟨w.heap.size,2,none⟩=some (.int .i64 id):=blk_cell ho2 2
 have d3:w2.cell? ⟨w.heap.size,3,none⟩=some (.slice ta tx.length tc):=blk_cell ho2 3
 have d1:w2.cell? ⟨pp,1,none⟩=some (.pointer (some ⟨qd,0,none⟩)):=blk_cell hp2 1
 go_wp2_with fail
 go_region_held3 (fun w'=>w'.cell? ⟨pp,1,none⟩=some (.pointer (some ⟨qd,0,none⟩))∧w'.cell? ⟨w.heap.size,2,none⟩=some (.int .i64 id)∧w'.cell? ⟨w.heap.size,3,none⟩=some (.slice ta tx.length tc)) (first | exact ⟨blk_cell hp3 1,blk_cell ho3 2,blk_cell ho3 3⟩ | go_keep) ((go_at_call 86;refine (HC2.out _ (Below.refl _ _).drew).mono ?_;rintro e w3 ⟨rfl,⟨ho3,hp3⟩,hfin⟩;have HFI:Hid _:=hfin;clear hfin))
 clear HC2 HSP HOB ho2 hp2 ho3 hp3
 go_wp2_with (go_at_call 16;refine (num_any _ _).mono ?_;rintro e w9 ⟨rfl,hw9⟩;rw [hw9];clear hw9 w9)
 go_ret
 exact ⟨rfl,HFI.out⟩
end Go.Proofs.YtcmgclckknpecaaGreatDoor
namespace Go.Proofs.YtcmgclckknpecaaGreatDoor
open Go.RowKit Go.Maps Go.Shelf
theorem nid_self {id:Int} {ds:Dl} (h:dhas id ds=false):Pl.nid id ds=ds:=by
 rw [Pl.nid,List.filter_eq_self]
 intro d hd
 have:¬ (d.1:Int)=id:=fun q=>by have:=dhas_iff.2 ⟨d,hd,q⟩;rw [h] at this;cases this
 simp [this]
theorem DelO.one {d base:Nat} {v0 v1 v2:Value} {ds:Dl} {id:Int} {w:World} {e:Ending} {w':World} (h:DelO d base v0 v1 v2 ds id w e w') (hn:Dnd ds) :
  e=.returned (.int .i64 (if dhas id ds=true then 0 else 7))∧w.grownBy w' (some d)∧∃ v2' base',Dg d v0 v1 v2' w'∧Ds base' v2' (Pl.nid id ds) w':=by
 rcases h.ex with ⟨h1,rfl,h2,h3,h4⟩ | ⟨k,v2',h1,h2,rfl,h3,h4,h5⟩
 ·have hno:=(Pl.dix_dhas id ds).1 h1
  rw [hno,nid_self hno]
  exact ⟨rfl,h4,v2,base,h2,h3⟩
 ·have hyes:dhas id ds=true:=by
   rcases Bool.eq_false_or_eq_true (dhas id ds) with q | q
   ·exact q
   ·rw [(Pl.dix_dhas id ds).2 q] at h1;omega
  have hk:((ds[k]).1:Int)=id:=by
   rcases Pl.dix_spec id (ds.map (·.1)) 0 with ⟨q1,_⟩ | ⟨k',hk',q1,q2⟩
   ·rw [q1] at h1;omega
   ·rw [h1] at q1
    have:k=k':=by omega
    subst this
    simpa using q2
  rw [hyes]
  refine ⟨rfl,h5,v2',w.heap.size,h3,?_⟩
  rw [← Pl.but_nid id k ds 0 hn (Nat.zero_le _) ⟨by omega,by simpa using hk⟩]
  exact h4
set_option maxRecDepth 100000 in
set_option maxHeartbeats 8000000 in
theorem step_del (B pp:Nat) (fs:List (ByteArray × ByteArray)) (X Y:Nat→Prop) (N:Nat) (q:Pq) (fv:Value) (wi id sz ct:Int) (ta:Option Addr) (tn tc:Nat) (qs fl:ByteArray) (w:World) (hPr:Pr B fs X q w) (hG:Gl B X Y N w) (hB:B≤w.heap.size) (hYm:¬ Y q.m) (hid:(Lit.int .i64 id).wf=true) (hpp:Blk pp 50 #[.pointer (some ⟨q.b,0,none⟩),.pointer (some ⟨q.d,0,none⟩)] w) :
  Calls Tryz.prog 43 #[.pointer (some ⟨pp,0,none⟩),fv,.agg #[.int .i64 2,.int .i64 wi,.int .i64 id,.slice ta tn tc,.string qs,.string fl,.int .i64 sz,.int .i64 ct]] w fun e w'=>e=.returned (.bool true)∧∃ ds' Y',SpO B fs X Y (N+900) q w w' ds' Y':=by
 obtain ⟨wa,hwa⟩:∃ wa,w.alloc (.cells #[.int .i64 2,.int .i64 wi,.int .i64 id,.slice ta tn tc,.string qs,.string fl,.int .i64 sz,.int .i64 ct] 69)=wa:=⟨_,rfl⟩
 have hBa:Below w.heap.size w wa:=by rw [← hwa];exact (Below.refl _ _).alloc (Nat.le_refl _) _
 have hob:Blk w.heap.size 69 #[.int .i64 2,.int .i64 wi,.int .i64 id,.slice ta tn tc,.string qs,.string fl,.int .i64 sz,.int .i64 ct] wa:=by rw [← hwa];exact heap_alloc_new w _
 have hsa:=hBa.size
 have hPa:=hPr.below hB hBa
 have hGa:=hG.below hBa
 have hppa:=hpp.below hBa
 obtain ⟨r,hr⟩:∃ r:Int,(if dhas id q.ds=true then 0 else 7)=r:=⟨_,rfl⟩
 have HSP:Hid (∀ W,Below wa.heap.size wa W→Calls Tryz.prog 87 #[.pointer (some ⟨q.b,0,none⟩),.int .i64 id] W fun e w2=>e=.returned (.int .i64 r)∧(Blk w.heap.size 69 #[.int .i64 2,.int .i64 wi,.int .i64 id,.slice ta tn tc,.string qs,.string fl,.int .i64 sz,.int .i64 ct] w2∧Blk pp 50 #[.pointer (some ⟨q.b,0,none⟩),.pointer (some ⟨q.d,0,none⟩)] w2) ∧
   ∀ W2,Below w2.heap.size w2 W2→Calls Tryz.prog 88 #[.pointer (some ⟨q.d,0,none⟩),.int .i64 id] W2 fun e w3=>e=.returned (.int .i64 r)∧(Blk w.heap.size 69 #[.int .i64 2,.int .i64 wi,.int .i64 id,.slice ta tn tc,.string qs,.string fl,.int .i64 sz,.int .i64 ct] w3∧Blk pp 50 #[.pointer (some ⟨q.b,0,none⟩),.pointer (some ⟨q.d,0,none⟩)] w3)∧∃ ds' Y',SpO B fs X Y (N+900) q w w3 ds' Y'):=fun W hW=>by
  have hsW:=hW.size
  have hPW:=hPa.below (by omega) hW
  have hGW:=hGa.below hW
  refine (edel_any B q.b q.L q.m q.ds X Y N id W hPW.e hGW (by omega) hYm hid hPW.n.1).mono ?_
  rintro e w2 ⟨rfl,hps⟩
  have hK2:=hps.a.m.kc (by omega) (hPW.e.fok hGW)
  have hs2:=hps.a.m.size
  have ho2:Blk w.heap.size 69 #[.int .i64 2,.int .i64 wi,.int .i64 id,.slice ta tn tc,.string qs,.string fl,.int .i64 sz,.int .i64 ct] w2:=hK2.c _ _ _ _ (by decide) (by decide) (hob.below hW)
  have hp2:Blk pp 50 #[.pointer (some ⟨q.b,0,none⟩),.pointer (some ⟨q.d,0,none⟩)] w2:=hK2.c _ _ _ _ (by decide) (by decide) (hppa.below hW)
  refine ⟨by rw [hr],⟨ho2,hp2⟩,fun W2 hW2=>?_⟩
  have hsW2:=hW2.size
  have hK2':=hK2.trans (Kc.below (by omega) hW2)
  have hR2:=hPW.r.kc hK2'
  obtain ⟨fa,fc,v1,v2,base,b2,g1,g2,g3⟩:=hR2.ex
  have hl12:=hPW.n.2
  refine (rdel_any q.d base _ v1 v2 q.ds id W2 g1 g3 (by omega)).mono ?_
  rintro e w3 hO
  obtain ⟨he,hg3,v2',base',hD3,hDs3⟩:=hO.one hPW.n.1
  rw [hr] at he
  refine ⟨he,⟨(ho2.below hW2).other hg3 g1.b (by decide),(hp2.below hW2).other hg3 g1.b (by decide)⟩,Pl.nid id q.ds,Y,?_⟩
  have hsub:(Pl.nid id q.ds).length≤q.ds.length:=List.length_filter_le _ _
  exact (Pr.both hPW (by omega) hGW (hps.e.below (by omega) hW2) ⟨(hps.a.g.below hW2).mono (by omega),hps.a.s,hps.a.t,hps.a.m.andBelow hW2⟩ hg3 hD3 hDs3 ⟨_,g1⟩ ⟨hPW.n.1.filter,by omega⟩).base (hBa.trans (hW.mono hsa))
 obtain ⟨qb,hqb⟩:∃ qb,q.b=qb:=⟨_,rfl⟩
 obtain ⟨qd,hqd⟩:∃ qd,q.d=qd:=⟨_,rfl⟩
 rw [hqb,hqd] at HSP hppa
 have a0:wa.cell? ⟨w.heap.size,0,none⟩=some (.int .i64 2):=blk_cell hob 0
 have a2:wa.cell? ⟨w.heap.size,2,none⟩=some (.int .i64 id):=blk_cell hob 2
 have b0:wa.cell? ⟨pp,0,none⟩=some (.pointer (some ⟨qb,0,none⟩)):=blk_cell hppa 0
 clear hPa hGa hPr hG hpp hqb hqd hr
 go_enter Tryz.func43,Tryz.ntmps43
 go_wp2_with fail
 clear hwa
 go_region_held3 (fun w'=>w'.cell? ⟨pp,0,none⟩=some (.pointer (some ⟨qb,0,none⟩))∧w'.cell? ⟨w.heap.size,2,none⟩=some (.int .i64 id)) (first | exact ⟨blk_cell hp2 0,blk_cell ho2 2⟩ | go_keep) ((go_at_call 87;refine (HSP.out _ (Below.refl _ _).drew).mono ?_;rintro e w2 ⟨rfl,⟨ho2,hp2⟩,hc2⟩;have HC2:Hid _:=hc2;clear hc2))
 have d2:w2.cell? ⟨w.heap.size,2,none⟩=some (.int .i64 id):=blk_cell ho2 2
 have d1:w2.cell? ⟨pp,1,none⟩=some (.pointer (some ⟨qd,0,none⟩)):=blk_cell hp2 1
 go_wp2_with fail
 go_region_held3 (fun w'=>w'.cell? ⟨pp,1,none⟩=some (.pointer (some ⟨qd,0,none⟩))∧w'.cell? ⟨w.heap.size,2,none⟩=some (.int .i64 id)) (first | exact ⟨blk_cell hp3 1,blk_cell ho3 2⟩ | go_keep) ((go_at_call 88;refine (HC2.out _ (Below.refl _ _).drew).mono ?_;rintro e w3 ⟨rfl,⟨ho3,hp3⟩,hfin⟩;have HFI:Hid _:=hfin;clear hfin))
 clear HC2 HSP ho2 hp2 ho3 hp3
 go_wp2_with (go_at_call 16;refine (num_any _ _).mono ?_;rintro e w9 ⟨rfl,hw9⟩;rw [hw9];clear hw9 w9)
 go_ret
 exact ⟨rfl,HFI.out⟩
set_option maxRecDepth 100000 in
set_option maxHeartbeats 8000000 in
theorem step_else (B pp:Nat) (fs:List (ByteArray × ByteArray)) (X Y:Nat→Prop) (N:Nat) (q:Pq) (fv:Value) (k wi id sz ct:Int) (ta:Option Addr) (tn tc:Nat) (qs fl:ByteArray) (w:World) (hk:k≤0) (hPr:Pr B fs X q w) (hG:Gl B X Y N w) (hB:B≤w.heap.size) :
  Calls Tryz.prog 43 #[.pointer (some ⟨pp,0,none⟩),fv,.agg #[.int .i64 k,.int .i64 wi,.int .i64 id,.slice ta tn tc,.string qs,.string fl,.int .i64 sz,.int .i64 ct]] w fun e w'=>e=.returned (.bool true)∧∃ ds' Y',SpO B fs X Y (N+900) q w w' ds' Y':=by
 have hBa:Below w.heap.size w (w.alloc (.cells #[.int .i64 k,.int .i64 wi,.int .i64 id,.slice ta tn tc,.string qs,.string fl,.int .i64 sz,.int .i64 ct] 69)):=(Below.refl _ _).alloc (Nat.le_refl _) _
 have HFI:Hid (∃ ds' Y',SpO B fs X Y (N+900) q w (w.alloc (.cells #[.int .i64 k,.int .i64 wi,.int .i64 id,.slice ta tn tc,.string qs,.string fl,.int .i64 sz,.int .i64 ct] 69)) ds' Y'):=⟨q.ds,Y,hPr.below hB hBa,(hG.below hBa).mono (by omega),fun _ q=>q,fun _ q=>.inl q,Mv.below hBa⟩
 have k1:¬ k=1:=by omega
 have k2:¬ k=2:=by omega
 have k3:¬ k=3:=by omega
 have k4:¬ k=4:=by omega
 have k5:¬ k=5:=by omega
 clear hPr hG hBa
 go_enter Tryz.func43,Tryz.ntmps43
 go_wp2_with fail
 go_ret
 exact ⟨rfl,HFI.out⟩
end Go.Proofs.YtcmgclckknpecaaGreatDoor
namespace Go.Proofs.YtcmgclckknpecaaGreatDoor
open Go.RowKit Go.Maps Go.Shelf
structure Dj (a b:Pq):Prop where
 m:a.m≠b.m
 f:∀ x∈a.L,∀ y∈b.L,x.1≠y.1
 d:a.d≠b.d
theorem Dj.symm {a b:Pq} (h:Dj a b):Dj b a:=⟨Ne.symm h.m,fun x hx y hy=>Ne.symm (h.f y hy x hx),Ne.symm h.d⟩
theorem Pr.cells {B:Nat} {fs:List (ByteArray × ByteArray)} {X Y:Nat→Prop} {N:Nat} {q:Pq} {w w':World} (h:Pr B fs X q w) (hG:Gl B X Y N w) (hm:Mv B (PF q) X Y w w') {k:Nat} {cs:Array Value} {t:TypeId} {f:Nat × Nat} (e:w.heap[k]?=some (.cells cs t f)) (ht:t≠3∧t≠175∧t≠62):w'.heap[k]?=some (.cells cs t f):=by
 refine hm.cells e ht.1 (fun p=>?_) (hG.not_cells e).1 (hG.not_cells e).2
 rcases p with (rfl | ⟨y,hy,rfl⟩) | rfl
 ·obtain ⟨D,⟨es,c,q1,_⟩,_⟩:=h.e.d.ex
  rw [e] at q1;cases q1
 ·obtain ⟨cs',q1,_⟩:=(h.e.f y hy).1.blk
  rw [show w.heap[y.1]?=_ from q1] at e
  injection e with e
  injection e with _ e _
  exact ht.2.1 e.symm
 ·obtain ⟨_,cs',q1⟩:=h.r.lt
  rw [q1] at e
  injection e with e
  injection e with _ e _
  exact ht.2.2 e.symm
theorem Pr.low {B:Nat} {fs:List (ByteArray × ByteArray)} {X Y:Nat→Prop} {N:Nat} {q:Pq} {w w':World} (h:Pr B fs X q w) (hG:Gl B X Y N w) (hB:B≤w.heap.size) (hm:Mv B (PF q) X Y w w'):Below B w w'∧Agr w w':=by
 have hb:Below B w w':=⟨hm.os,hm.tape,hm.output,hm.size,fun k hk=>hm.block k (by omega) (fun p=>by
  rcases p with (rfl | ⟨y,hy,rfl⟩) | rfl
  ·have:=h.e.p.2.1;omega
  ·have:=(h.e.f y hy).2.2;omega
  ·have:=h.d;omega) (fun p=>by have:=(hG.x_map p).1;omega) (fun p=>by have:=(hG.y_map p).1;omega) (fun p=>by omega)⟩
 refine ⟨hb,hm.size,fun k o ho hk=>?_⟩
 rcases hk with rfl | ⟨c,t,fz,rfl,ht⟩
 ·exact (hb.block 0 h.e.p.1).trans ho
 ·exact h.cells hG hm ho ⟨by rintro rfl;simp at ht,by rintro rfl;simp at ht,by rintro rfl;simp at ht⟩
theorem Pr.mv {B:Nat} {fs:List (ByteArray × ByteArray)} {X Y:Nat→Prop} {N:Nat} {a b:Pq} {w w':World} (hb:Pr B fs X b w) (ha:Pr B fs X a w) (hG:Gl B X Y N w) (hB:B≤w.heap.size) (hm:Mv B (PF a) X Y w w') (hj:Dj a b) (hY:¬ Y b.m):Pr B fs X b w':=by
 obtain ⟨hlow,hag⟩:=ha.low hG hB hm
 have hc:=fun {k:Nat} {cs:Array Value} {t:TypeId} {f:Nat × Nat} (e:w.heap[k]?=some (.cells cs t f)) (ht:t≠3∧t≠175∧t≠62)=>ha.cells hG hm e ht
 refine ⟨hb.e.keepd ⟨hag,fun k cs t f ht e=>hc e ⟨by rintro rfl;simp at ht,by rintro rfl;simp at ht,by rintro rfl;simp at ht⟩⟩ (fun _ q=>q) hb.e.p.2.2 ?_ fun f hf=>.inl ?_,hb.l,hb.r.keep ?_ fun g cs t ht e=>hc e ⟨by rintro rfl;simp at ht,by rintro rfl;simp at ht,by rintro rfl;simp at ht⟩,hb.d,hb.n⟩
 ·obtain ⟨D,⟨es,c,q1,_⟩,_⟩:=hb.e.d.ex
  refine hm.block b.m (Array.getElem?_eq_some_iff.1 q1).1 (fun p=>?_) hb.e.p.2.2 hY fun _ c f q3=>by rw [q1] at q3;cases q3
  rcases p with (p | ⟨y,hy,p⟩) | p
  ·exact hj.m p.symm
  ·obtain ⟨cs',q2,_⟩:=(ha.e.f y hy).1.blk
   rw [p,show w.heap[y.1]?=_ from q2] at q1;cases q1
  ·obtain ⟨_,cs',q2⟩:=ha.r.lt
   rw [p,q2] at q1;cases q1
 ·obtain ⟨cs',q1,_⟩:=(hb.e.f f hf).1.blk
  refine (hm.cells q1 (by decide) (fun p=>?_) (hG.not_cells q1).1 (hG.not_cells q1).2).trans (Eq.symm q1)
  rcases p with (p | ⟨y,hy,p⟩) | p
  ·obtain ⟨D,⟨es,c,q2,_⟩,_⟩:=ha.e.d.ex
   rw [← p,show w.heap[f.1]?=_ from q1] at q2;cases q2
  ·exact hj.f y hy f hf p.symm
  ·obtain ⟨_,cs2,q2⟩:=ha.r.lt
   rw [← p,show w.heap[f.1]?=_ from q1] at q2
   injection q2 with q2
   injection q2 with _ q2 _
   cases q2
 ·obtain ⟨_,cs',q1⟩:=hb.r.lt
  refine (hm.cells q1 (by decide) (fun p=>?_) (hG.not_cells q1).1 (hG.not_cells q1).2).trans (Eq.symm q1)
  rcases p with (p | ⟨y,hy,p⟩) | p
  ·obtain ⟨D,⟨es,c,q2,_⟩,_⟩:=ha.e.d.ex
   rw [← p,q1] at q2;cases q2
  ·obtain ⟨cs2,q2,_⟩:=(ha.e.f y hy).1.blk
   rw [p,show w.heap[y.1]?=_ from q2] at q1
   injection q1 with q1
   injection q1 with _ q1 _
   cases q1
  ·exact hj.d p.symm
structure Opd where
 k:Int
 wi:Int
 id:Int
 ta:Option Addr
 ga:Addr
 tc:Nat
 tx:List ByteArray
 qs:ByteArray
 fl:ByteArray
 sz:Int
 ct:Int
def Opd.cs (p:Opd):Array Value:=#[.int .i64 p.k,.int .i64 p.wi,.int .i64 p.id,.slice p.ta p.tx.length p.tc,.string p.qs,.string p.fl,.int .i64 p.sz,.int .i64 p.ct]
structure Scr (B g o:Nat) (ops:List Opd) (w:World):Prop where
 c:∀ i (h:i<ops.length) (j:Nat) (v:Value),(ops[i]).cs[j]?=some v→w.cell? ⟨g,o+i*8+j,none⟩=some v
 g:0<ops.length→g<B
 k:∀ p∈ops,(Lit.int .i64 p.id).wf=true∧(0<p.tx.length→p.ta=some p.ga)∧(0<p.tx.length→∀ j,(p.ga.add j).block<B)∧p.tx.length≤9223372036854775807∧TxA p.ga p.tx w
theorem Scr.below {B g o:Nat} {ops:List Opd} {w w':World} (h:Scr B g o ops w) (hb:Below B w w'):Scr B g o ops w' :=
 ⟨fun i hi j v e=>(hb.cell (p:=⟨g,o+i*8+j,none⟩) (h.g (by omega))).trans (h.c i hi j v e),h.g,fun p hp=>by
  obtain ⟨h1,h2,h3,h4,h5⟩:=h.k p hp
  exact ⟨h1,h2,h3,h4,⟨fun i hi=>(hb.cell (p:=p.ga.add i) (h3 (by omega) i)).trans (h5.c i hi)⟩⟩⟩
structure Up (B:Nat) (fs:List (ByteArray × ByteArray)) (pa pb N:Nat) (w0 wr:World):Prop where
 ex:∃ (X Y:Nat→Prop) (a b:Pq),Gl B X Y N wr∧(¬ Y a.m∧¬ Y b.m)∧(Blk pa 50 #[.pointer (some ⟨a.b,0,none⟩),.pointer (some ⟨a.d,0,none⟩)] wr∧Blk pb 50 #[.pointer (some ⟨b.b,0,none⟩),.pointer (some ⟨b.d,0,none⟩)] wr)∧Pr B fs X a wr∧Pr B fs X b wr∧Dj a b
 b:Below B w0 wr
 s:B≤wr.heap.size
 e:Ends wr
theorem Up.swap {B:Nat} {fs:List (ByteArray × ByteArray)} {pa pb N:Nat} {w0 wr:World} (h:Up B fs pa pb N w0 wr):Up B fs pb pa N w0 wr:=by
 obtain ⟨X,Y,a,b,h1,h2,h3,h4,h5,h6⟩:=h.ex
 exact ⟨⟨X,Y,b,a,h1,h2.symm,h3.symm,h5,h4,h6.symm⟩,h.b,h.s,h.e⟩
theorem Up.below {B:Nat} {fs:List (ByteArray × ByteArray)} {pa pb N:Nat} {w0 wr w':World} (h:Up B fs pa pb N w0 wr) (hb:Below wr.heap.size wr w'):Up B fs pa pb N w0 w':=by
 obtain ⟨X,Y,a,b,h1,h2,h3,h4,h5,h6⟩:=h.ex
 have hs:=h.s
 exact ⟨⟨X,Y,a,b,h1.below hb,h2,⟨h3.1.below hb,h3.2.below hb⟩,h4.below hs hb,h5.below hs hb,h6⟩,h.b.trans (hb.mono hs),Nat.le_trans hs hb.size,h.e.below hb⟩
theorem Up.mono {B:Nat} {fs:List (ByteArray × ByteArray)} {pa pb N N':Nat} {w0 wr:World} (h:Up B fs pa pb N w0 wr) (hn:N≤N'):Up B fs pa pb N' w0 wr:=by
 obtain ⟨X,Y,a,b,h1,h2⟩:=h.ex
 exact ⟨⟨X,Y,a,b,h1.mono hn,h2⟩,h.b,h.s,h.e⟩
theorem Up.step {B:Nat} {fs:List (ByteArray × ByteArray)} {pa pb N g o:Nat} {w0 wr:World} (h:Up B fs pa pb N w0 wr) (fv:Value) {ops:List Opd} (hS:Scr B g o ops w0) {p:Opd} (hp:p∈ops) (hk:p.k≤2) (hN:N≤4611686018427380000) :
  Calls Tryz.prog 43 #[.pointer (some ⟨pa,0,none⟩),fv,.agg p.cs] wr fun e w'=>e=.returned (.bool true)∧Up B fs pa pb (N+900) w0 w'∧(∀ (k:Nat) (cs:Array Value),Blk k 69 cs wr→Blk k 69 cs w'):=by
 obtain ⟨X,Y,a,b,h1,h2,h3,h4,h5,h6⟩:=h.ex
 have hs:=h.s
 have fin:∀ w' ds' Y',SpO B fs X Y (N+900) a wr w' ds' Y'→Up B fs pa pb (N+900) w0 w'∧(∀ (k:Nat) (cs:Array Value),Blk k 69 cs wr→Blk k 69 cs w'):=fun w' ds' Y' q=>by
  obtain ⟨hlow,hag⟩:=h4.low h1 hs q.m
  have hc:=fun {k:Nat} {cs:Array Value} {t:TypeId} {f:Nat × Nat} (e:wr.heap[k]?=some (.cells cs t f)) (ht:t≠3∧t≠175∧t≠62)=>h4.cells h1 q.m e ht
  have hml:∀ {z:Pq},Pr B fs X z wr→¬ Y z.m→¬ Y' z.m:=fun {z} hz hn q2=>by
   rcases q.t _ q2 with q3 | q3
   ·exact hn q3
   ·obtain ⟨D,q4,_⟩:=hz.e.d.ex
    have:=q4.lt
    omega
  exact ⟨⟨⟨X,Y',a.set ds',b,q.g,⟨(show ¬ Y' a.m from hml h4 h2.1),hml h5 h2.2⟩,⟨hc h3.1 (by decide),hc h3.2 (by decide)⟩,q.p,h5.mv h4 h1 hs q.m h6 h2.2,⟨h6.m,h6.f,h6.d⟩⟩,h.b.trans hlow,Nat.le_trans hs q.m.size,h.e.agr hag⟩,fun k cs e=>hc e (by decide)⟩
 obtain ⟨k1,k2,k3,k4,k5⟩:=(hS.below h.b).k p hp
 rcases (by omega:p.k≤0∨p.k=1∨p.k=2) with hk | hk | hk
 ·refine (step_else B pa fs X Y N a fv p.k p.wi p.id p.sz p.ct p.ta p.tx.length p.tc p.qs p.fl wr hk h4 h1 hs).mono ?_
  rintro e w' ⟨rfl,ds',Y',q⟩
  exact ⟨rfl,fin w' ds' Y' q⟩
 ·have hcs:p.cs=#[.int .i64 1,.int .i64 p.wi,.int .i64 p.id,.slice p.ta p.tx.length p.tc,.string p.qs,.string p.fl,.int .i64 p.sz,.int .i64 p.ct]:=by rw [Opd.cs,hk]
  rw [hcs]
  refine (step_put B pa fs X Y N a fv p.wi p.id p.sz p.ct p.tx p.ta p.ga p.tc p.qs p.fl wr h4 h1 hs h2.1 h.e hN k1 h3.1 k5 k2 k3 k4).mono ?_
  rintro e w' ⟨rfl,ds',Y',q⟩
  exact ⟨rfl,fin w' ds' Y' q⟩
 ·have hcs:p.cs=#[.int .i64 2,.int .i64 p.wi,.int .i64 p.id,.slice p.ta p.tx.length p.tc,.string p.qs,.string p.fl,.int .i64 p.sz,.int .i64 p.ct]:=by rw [Opd.cs,hk]
  rw [hcs]
  refine (step_del B pa fs X Y N a fv p.wi p.id p.sz p.ct p.ta p.tx.length p.tc p.qs p.fl wr h4 h1 hs h2.1 k1 h3.1).mono ?_
  rintro e w' ⟨rfl,ds',Y',q⟩
  exact ⟨rfl,fin w' ds' Y' q⟩
end Go.Proofs.YtcmgclckknpecaaGreatDoor
