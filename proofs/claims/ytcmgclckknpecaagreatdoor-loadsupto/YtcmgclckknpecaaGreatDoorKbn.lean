import Derived.Test.YtcmgclckknpecaaGreatDoorKbm
namespace Go.Proofs.YtcmgclckknpecaaGreatDoor
open Go.RowKit Go.Maps Go.Shelf
namespace Pl
theorem qeaAll_len:∀ (es:List Sp) (xs:Ch3),(∀ e∈es,SpW e)→(eaAll es xs).length≤8 ^ es.length*xs.length
 | [],xs,_=>by simp [eaAll]
 | e :: r,xs,h=>by
  have h1:=qeaAll_len r (eaS e xs) (fun q hq=>h q (List.mem_cons_of_mem _ hq))
  have h2:(eaS e xs).length≤8*xs.length:=eaK_len _ e (h e (List.mem_cons_self ..)) xs
  rw [eaAll,List.length_cons,Nat.pow_succ,Nat.mul_assoc]
  exact Nat.le_trans h1 (Nat.mul_le_mul_left _ h2)
theorem qlateAll_inv {b:Nat→Prop}:∀ (ls:List Sp) (K:Nat) (ts us:List Tc),(∀ e∈ls,SpW e)→TkI b K ts→lateAll ls ts=some us→us.length≤300∧TkI b (K+8*ls.length) us
 | [],K,ts,us,_,h,e=>by
  rw [lateAll] at e
  split at e
  ·cases e
   exact ⟨by assumption,h⟩
  ·cases e
 | l :: r,K,ts,us,hw,h,e=>by
  rw [lateAll] at e
  split at e
  ·have:=qlateAll_inv r (K+8) _ us (fun x hx=>hw x (by simp [hx])) (lgC_inv h l (hw l (by simp))) e
   rw [List.length_cons,show K+8*(r.length+1)=K+8+8*r.length by omega]
   exact this
  ·cases e
theorem lateAll_pos (M:Nat):∀ (ls:List Sp) (ts us:List Tc),(∀ t∈ts,t.2.1≤M)→lateAll ls ts=some us→∀ t∈us,t.2.1≤M
 | [],ts,us,h,e=>by
  rw [lateAll] at e
  split at e
  ·cases e;exact h
  ·cases e
 | l :: r,ts,us,h,e=>by
  rw [lateAll] at e
  split at e
  ·refine lateAll_pos M r _ us (fun t ht=>?_) e
   obtain ⟨t0,h0,h1⟩:=List.mem_flatMap.1 ht
   obtain ⟨u,_,rfl⟩:=List.mem_map.1 h1
   exact h t0 h0
  ·cases e
theorem toksC_pos (xs:Ch3) {n:Nat}:∀ (i:Nat) (l:List (Pce n)),∀ t∈toksC xs i l,t.2.1<i+l.length
 | i,[],t,h=>by simp [toksC] at h
 | i,x :: r,t,h=>by
  rw [toksC] at h
  rcases List.mem_cons.1 h with rfl | h
  ·simp [tokC]
  ·have:=toksC_pos xs (i+1) r t h
   simp only [List.length_cons]
   omega
theorem lateAll_first {ls:List Sp} {ts us:List Tc} (h:lateAll ls ts=some us):ts.length≤300:=by
 cases ls <;> rw [lateAll] at h <;> split at h <;> first | assumption | cases h
theorem takeP_pos (es:List Sp) (cu:Sp) (ls:List Sp) (xs:Ch3) (us:List Tc) (h:takeP es cu ls xs=some us):∀ t∈us,t.2.1≤300:=by
 refine lateAll_pos 300 ls _ us (fun t ht=>?_) h
 have h1:=lateAll_first h
 unfold cutC at h1 ht
 have h2:=toksC_pos _ 0 _ t ht
 rw [toksC_length] at h1
 omega
end Pl
theorem Tsp.run {ch:ByteArray} {T es:List Sp} {cu:Sp} {ls:List Sp} (h:Tsp ch T es cu ls) (xs:Ch3):Pl.runT T (xs,[])=Pl.takeP es cu ls xs:=by
 rw [h.t]
 exact Pl.runT_take cu ls (kst_C h.z h.c).2 (fun l hl=>(kst_L h.z (h.l l hl)).2) es (fun e he=>(kst_E h.z (h.e e he)).2) xs
structure Tko (ts:List Pl.Tc):Prop where
 n:ts.length≤300
 k:∀ t∈ts.map Pl.tkC,t.1.size≤281474976710656∧t.2.1≤1099511627775
theorem Tsp.tko {ch:ByteArray} {T es:List Sp} {cu:Sp} {ls:List Sp} (h:Tsp ch T es cu ls) {s:ByteArray} (hs:s.size≤120) {xs:Ch3} (hx:Pl.cs (Pl.bt s) s.size s.size 0=xs) {us:List Pl.Tc} (e:Pl.takeP es cu ls xs=some us):Tko us:=by
 have hI:Pl.Inv (fun _=>True) xs:=(Pl.cs_inv s xs hx).weak fun _ _=>trivial
 have hxl:xs.length≤120:=by have:=Pl.cs_length (Pl.bt s) s.size s.size 0;rw [hx] at this;omega
 have hE:∀ q∈es,SpW q:=fun q hq=>by
  obtain ⟨i,b,k,hi,h3,e,hb,hbs⟩:=h.e q hq
  rw [e];exact Pl.spW_of ch h.z _ _ b k hbs hb
 have hL:∀ q∈ls,SpW q:=fun q hq=>by
  obtain ⟨i,b,k,hi,e,hb,hbs⟩:=h.l q hq
  rw [e];exact Pl.spW_of ch h.z _ _ b k hbs hb
 have hl:=Pl.qeaAll_len es xs hE
 have hb:(Pl.eaAll es xs).length≤268435456:=by
  have h1:8 ^ es.length≤8 ^ 7:=Nat.pow_le_pow_right (by omega) h.n.1
  have h2:(8:Nat) ^ 7=2097152:=by decide
  rw [h2] at h1
  exact Nat.le_trans hl (Nat.le_trans (Nat.mul_le_mul h1 hxl) (by decide))
 obtain ⟨h3,h4⟩:=Pl.qlateAll_inv ls 268435456 _ us hL (Pl.cutC_inv (Pl.eaAll_inv es xs hE hI) cu 268435456 hb) e
 have h5:=Pl.takeP_pos es cu ls xs us e
 have h7:=h.n.2
 refine ⟨h3,fun t ht=>?_⟩
 obtain ⟨u,hu,rfl⟩:=List.mem_map.1 ht
 have h6:=(h4.ok u hu).2.2.1
 have h8:=h5 u hu
 refine ⟨?_,by show u.2.1≤_;omega⟩
 show (Pl.en u.1).size≤_
 rw [Pl.en_size]
 have:=(Pl.eb_le u.1).2
 omega
set_option maxHeartbeats 1000000 in
theorem ftake_slong (b:Nat) (s:ByteArray) (w:World) (hs:120<s.size):Calls Tryz.prog 36 #[.pointer (some ⟨b,2,none⟩),.string s] w fun e w'=>e=.returned (.tuple #[.slice none 0 0,.int .i64 1])∧w'=w:=by
 go_enter Tryz.func36,Tryz.ntmps36
 go_wp2_with fail
 refine (split_long s _ hs).mono ?_
 rintro e w2 ⟨rfl,hw⟩
 rw [hw];clear hw w2
 go_wp2
 go_ret2
 exact ⟨rfl,rfl⟩
theorem nodup_inj:∀ {L:List Fe},(L.map (·.1)).Nodup→∀ {a b:Fe},a∈L→b∈L→a.1=b.1→a=b
 | x :: r,hn,a,b,ha,hb,e=>by
  have hn':x.1 ∉ r.map (·.1)∧(r.map (·.1)).Nodup:=by simpa using hn
  rcases List.mem_cons.1 ha with h1 | h1
  ·rcases List.mem_cons.1 hb with h2 | h2
   ·rw [h1,h2]
   ·exact absurd (show x.1∈r.map (·.1) from List.mem_map.2 ⟨b,h2,by rw [← e,h1]⟩) hn'.1
  ·rcases List.mem_cons.1 hb with h2 | h2
   ·exact absurd (show x.1∈r.map (·.1) from List.mem_map.2 ⟨a,h1,by rw [e,h2]⟩) hn'.1
   ·exact nodup_inj hn'.2 h1 h2 e
theorem info22:(Tryz.prog.info? 22).map (fun i=>(i.zero,i.size,i.bytes))=some (some (.slice none 0 0),1,24):=by kernel_rfl
structure Tkn (base:Nat) (v:Value) (us:List (List Pl.Tc)) (w:World):Prop where
 ex:∃ vs:List (Value × List Pl.Tc),vs.map (·.2)=us∧w.ownsRow base 22 1 v vs.length (vs.map (·.1))∧∀ u∈vs,w.ownsRow 0 27 4 u.1 u.2.length ((u.2.map Pl.tkC).flatMap tenc)∧Tko u.2
theorem Tkn.keep {base:Nat} {v:Value} {us:List (List Pl.Tc)} {w w':World} (h:Tkn base v us w) (k:∀ (g:Nat) (cs:Array Value) (t:TypeId),(t=22∨t=27)→w.heap[g]?=some (Obj.cells cs t (0,0))→w'.heap[g]?=some (Obj.cells cs t (0,0))):Tkn base v us w':=by
 obtain ⟨vs,h1,h2,h3⟩:=h.ex
 exact ⟨vs,h1,row_keep h2 fun g cur _=>k g cur 22 (.inl rfl),fun u hu=>⟨row_keep (h3 u hu).1 fun g cur _=>k g cur 27 (.inr rfl),(h3 u hu).2⟩⟩
theorem Tkn.form {base:Nat} {v:Value} {us:List (List Pl.Tc)} {w:World} (h:Tkn base v us w) {j:Nat} (hj:us.length=j):∃ pa pc,v=.slice pa j pc:=by
 obtain ⟨vs,q1,q2,_⟩:=h.ex
 have:vs.length=j:=by rw [← hj,← q1];simp
 rw [this] at q2
 exact slice_of_row q2
structure TlL [Inhabited Exb] (B b:Nat) (L:List Fe) (m:Nat) (ds:Dl) (X Y:Nat→Prop) (N:Nat) (tx:List ByteArray) (E:Option (Nat × Nat)) (w:World) (tv iv:Value) (wr:World):Prop where
 ex:∃ (j:Nat) (us:List (List Pl.Tc)),iv=.int .i64 (j:Int)∧j≤tx.length∧us.length=j∧Tkn w.heap.size tv us wr∧Pl.tkE ((L.map fun f=>Pl.chOf f.2.1).drop j) (tx.drop j) j=E∧Eng B b L m ds X wr∧Gl B X Y N wr∧Mv B (EF L m) X Y w wr
structure TlO [Inhabited Exb] (B b:Nat) (L:List Fe) (m:Nat) (ds:Dl) (X Y:Nat→Prop) (N:Nat) (tx:List ByteArray) (w:World) (e:Ending) (w':World):Prop where
 n:Eng B b L m ds X w'
 g:Gl B X Y N w'
 m:Mv B (EF L m) X Y w w'
 r:(∃ f at_:Nat,f≠0∧Pl.tkE (L.map fun f=>Pl.chOf f.2.1) tx 0=some (f,at_)∧e=.returned (.tuple #[.slice none 0 0,.int .i64 (f:Int),.int .i64 (at_:Int)]))∨(∃ v us,Pl.tkE (L.map fun f=>Pl.chOf f.2.1) tx 0=none∧e=.returned (.tuple #[v,.int .i64 0,.int .i64 0])∧us.length=tx.length∧Tkn w.heap.size v us w')
def Tlw (B:Nat) (ga:Addr) (w:World):Prop:=(∀ j,(ga.add j).block<B)∨∃ cs f,w.heap[ga.block]?=some (.cells cs 9 f)
theorem Tlw.kc {B:Nat} {ga:Addr} {w w':World} (h:Tlw B ga w) (k:Kc B w w'):Tlw B ga w':=h.imp id fun ⟨cs,f,e⟩=>⟨cs,f,k.c _ _ _ _ (by decide) (by decide) e⟩
theorem Tlw.cell {B:Nat} {ga:Addr} {w w':World} (h:Tlw B ga w) (k:Kc B w w') (j:Nat):w'.cell? (ga.add j)=w.cell? (ga.add j):=by
 rcases h with h | ⟨cs,f,e⟩
 ·exact k.b.cell (h j)
 ·have e2:=k.c _ _ _ _ (by decide) (by decide) e
  have hb:(ga.add j).block=ga.block:=by unfold Addr.add;split <;> rfl
  unfold World.cell?
  rw [hb,e,e2]
set_option maxRecDepth 100000 in
set_option maxHeartbeats 4000000 in
theorem etake_any [Inhabited Exb] (B b:Nat) (L:List Fe) (m:Nat) (ds:Dl) (X Y:Nat→Prop) (N:Nat) (tx:List ByteArray) (ta:Option Addr) (ga:Addr) (tc:Nat) (w:World) (hE:Eng B b L m ds X w) (hG:Gl B X Y N w) (hB:B≤w.heap.size) (HEN:Hid (Ends w)) (HTL:Hid (tx.length=L.length))
  (hT:TxA ga tx w) (hta:0<tx.length→ta=some ga) (hgt:0<tx.length→Tlw B ga w) :
  Calls Tryz.prog 148 #[.pointer (some ⟨b,0,none⟩),.slice ta tx.length tc] w fun e w'=>TlO B b L m ds X Y N tx w e w':=by
 obtain ⟨i0,hi,hz0,hz1,hz2⟩:=info_parts info22
 obtain ⟨E,hE0⟩:∃ E,Pl.tkE (L.map fun f=>Pl.chOf f.2.1) tx 0=E:=⟨_,rfl⟩
 have HE:Hid (Pl.tkE (L.map fun f=>Pl.chOf f.2.1) tx 0=E):=hE0
 have hl3:=hE.l.2
 have htl3:tx.length≤3:=by have:=HTL.out;omega
 have HFO:Hid (∀ W,Eng B b L m ds X W→Gl B X Y N W→Fok B (EF L m) X Y W):=fun W h1 h2=>h1.fok h2
 have HTX:Hid (∀ W,Mv B (EF L m) X Y w W→∀ q (hq:q<tx.length),ta=some ga∧W.cell? (ga.add q)=some (.string (tx[q]))):=fun W hW q hq=>by
  have hK:=hW.kc hB (hE.fok hG)
  exact ⟨hta (by omega),((hgt (by omega)).cell hK q).trans (hT.c q hq)⟩
 have HENs:Hid (∀ W,Mv B (EF L m) X Y w W→Ends W):=fun W hW=>HEN.out.agr ((hW.kc hB (hE.fok hG)).agr hE.p.1)
 clear hE0 hT hta hgt
 go_enter Tryz.func148,Tryz.ntmps148
 go_wp2_with fail
 go_loopw [7,14] (fun tv iv wr=>TlL B b L m ds X Y N tx E w tv iv wr) (fun _ iv _=>tx.length - (intOf iv).toNat)
 case atStart=>exact ⟨0,[],rfl,by omega,rfl,⟨[],rfl,World.ownsRow_nil _ _ _ _,by simp⟩,HE.out,hE,hG,Mv.refl _ _ _ _ _⟩
 case round =>
  obtain ⟨j,us,rfl,hj,hul,hTk,hEj,hEr,hGr,hMr⟩:=hrel.ex
  clear hrel
  by_cases hjl:j<tx.length
  ·have hjI:(j:Int)<(tx.length:Int):=by omega
   have hjL:j<L.length:=by have:=HTL.out;omega
   obtain ⟨rfl,t0⟩:=HTX.out wr hMr j hjl
   obtain ⟨g,cap,h1,hrow⟩:=hEr.e
   have c0:wr.cell? ⟨b,0,none⟩=some (.slice (some ⟨g,0,none⟩) L.length cap):=blk_cell h1 0
   have c1:wr.cell? ⟨g,j,none⟩=some (.pointer (some ⟨(L[j]).1,0,none⟩)):=by
    have:=hrow.cells (g:=g) rfl j (.pointer (some ⟨(L[j]).1,0,none⟩)) (by simp [hjL])
    rw [show ((⟨g,0,none⟩:Addr).add j)=⟨g,j,none⟩ by unfold Addr.add;split <;> simp_all] at this
    exact this
   have hjLI:(j:Int)<(L.length:Int):=by omega
   have hFA:=(hEr.f _ (List.getElem_mem hjL)).1
   have hdr:(L.map fun f=>Pl.chOf f.2.1).drop j=Pl.chOf (L[j]).2.1 :: (L.map fun f=>Pl.chOf f.2.1).drop (j+1):=by rw [List.drop_eq_getElem_cons (by simpa using hjL)];simp
   have hdt:tx.drop j=tx[j] :: tx.drop (j+1):=List.drop_eq_getElem_cons hjl
   rw [hdr,hdt,Pl.tkE] at hEj
   have hmem:=List.getElem_mem hjL
   obtain ⟨⟨fb,⟨nm,ch⟩,ib⟩,hf⟩:∃ f,L[j]=f:=⟨_,rfl⟩
   obtain ⟨s,hs⟩:∃ s,tx[j]=s:=⟨_,rfl⟩
   rw [hf] at c1 hFA hEj hmem
   rw [hs] at t0 hEj
   simp only at c1 hFA hEj
   have HMEM:Hid ((fb,(nm,ch),ib)∈L):=hmem
   clear hf hs hdr hdt hmem
   obtain ⟨pa,pc,rfl⟩:=hTk.form hul
   by_cases hsz:120<s.size
   ·rw [if_pos hsz] at hEj
    have HCL:Hid (Calls Tryz.prog 36 #[.pointer (some ⟨fb,2,none⟩),.string s] wr fun e w'=>e=.returned (.tuple #[.slice none 0 0,.int .i64 1])∧w'=wr):=ftake_slong fb s wr hsz
    have HFI:Hid (TlO B b L m ds X Y N tx w (.returned (.tuple #[.slice none 0 0,.int .i64 1,.int .i64 (j:Int)])) wr):=⟨hEr,hGr,hMr,.inl ⟨1,j,by decide,HE.out.trans hEj.symm,rfl⟩⟩
    clear hEr hGr hMr hTk hEj HE hul hFA hrow h1 HFO HTX HENs hE hG
    go_wp2_with fail
    refine HCL.out.mono ?_
    rintro e w2 ⟨rfl,hw⟩
    rw [hw];clear hw w2
    go_wp2_with fail
    go_ret3
    exact HFI.out
   ·rw [if_neg hsz] at hEj
    obtain ⟨xs,hxs⟩:∃ xs,Pl.cs (Pl.bt s) s.size s.size 0=xs:=⟨_,rfl⟩
    rw [hxs] at hEj
    have HXS:Hid (Pl.cs (Pl.bt s) s.size s.size 0=xs):=hxs
    have HCL:Hid (Calls Tryz.prog 36 #[.pointer (some ⟨fb,2,none⟩),.string s] wr fun e w'=>FtO fb nm ch ib (Pl.chOf (nm,ch)) xs wr e w'):=ftake_any fb nm ch ib _ s wr hFA (HENs.out wr hMr) (by omega) xs hxs
    have HNX:Hid (∀ e W,FtO fb nm ch ib (Pl.chOf (nm,ch)) xs wr e W→(∃ v f,e=.returned (.tuple #[v,.int .i64 (f:Int)])∧Eng B b L m ds X W∧Gl B X Y N W∧Mv B (EF L m) X Y w W∧Tkn w.heap.size (.slice pa j pc) us W∧wr.grownBy W (some fb) ∧
      ((f=3∧v=.slice none 0 0∧E=some (3,j))∨∃ ts,f=0∧W.ownsRow 0 27 4 v ts.length ((ts.map Pl.tkC).flatMap tenc)∧Tko ts∧Pl.tkE ((L.map fun f=>Pl.chOf f.2.1).drop (j+1)) (tx.drop (j+1)) (j+1)=E))):=fun e W hO=>by
     obtain ⟨q1,q2,es,cu,ls,hTs,q3⟩:=hO.ex
     obtain ⟨cs,hfb,_⟩:=hFA.blk
     have hmem:=HMEM.out
     have hne:fb≠0:=hFA.ex.1
     have hfm:m≠fb:=fun e=>by
      obtain ⟨D,⟨es,c,q,_⟩,_⟩:=hEr.d.ex
      rw [e,show wr.heap[fb]?=_ from hfb] at q
      cases q
     have hEW:Eng B b L m ds X W:=by
      refine hEr.keepd (Kd.far q2 fun i e=>?_) (fun _ q=>q) hEr.p.2.2 (q2.block m ?_ (by simpa using hfm)) fun f hf=>?_
      ·injection e with e
       subst e
       refine ⟨hne,fun cs' t f ht q=>?_⟩
       rw [show wr.heap[fb]?=_ from hfb] at q
       injection q with q
       injection q with _ q _
       subst q
       simp at ht
      ·obtain ⟨D,q,_⟩:=hEr.d.ex
       exact q.lt
      ·by_cases hff:f.1=fb
       ·have:f=(fb,(nm,ch),ib):=nodup_inj hEr.n hf hmem hff
        subst this
        exact .inr q1
       ·left
        obtain ⟨cs',hb',_⟩:=(hEr.f f hf).1.blk
        exact q2.block f.1 hb'.lt (by simpa using hff)
     have hGW:Gl B X Y N W:=hGr.far q2 (hGr.not_cells hfb).1 (hGr.not_cells hfb).2 fun c f q=>by
      rw [show wr.heap[fb]?=_ from hfb] at q
      injection q with q
      injection q with _ q _
      cases q
     have hMW:Mv B (EF L m) X Y w W:=hMr.andThen q2 fun i e=>by
      injection e with e
      subst e
      exact .inr (.inl (.inr ⟨_,hmem,rfl⟩))
     have hTW:Tkn w.heap.size (.slice pa j pc) us W:=hTk.keep fun g cs' t ht e=>(q2.block g (Array.getElem?_eq_some_iff.1 e).1 fun q=>by
      injection q with q
      subst q
      rw [show wr.heap[g]?=_ from hfb] at e
      injection e with e
      injection e with _ e _
      subst e
      simp at ht).trans e
     have hrun:=hTs.run xs
     rcases q3.ex with ⟨ts,v,r1,rfl,r2⟩ | ⟨r1,rfl⟩
     ·refine ⟨v,0,rfl,hEW,hGW,hMW,hTW,q2,.inr ⟨ts,rfl,ownsRow_low r2 (Nat.zero_le _),hTs.tko (by omega) hxs r1,?_⟩⟩
      rw [hrun,r1,if_neg (by simp)] at hEj
      exact hEj
     ·refine ⟨_,3,rfl,hEW,hGW,hMW,hTW,q2,.inl ⟨rfl,rfl,?_⟩⟩
      rw [hrun,r1,if_pos (by simp)] at hEj
      exact hEj.symm
    clear hEr hGr hMr hTk hEj hFA hrow h1 HFO HTX HENs hE hG hxs
    go_wp2_with fail
    refine HCL.out.mono ?_
    rintro e w2 hO
    obtain ⟨v,f,rfl,hE2,hG2,hM2,hT2,hg2,hc⟩:=HNX.out e w2 hO
    clear HNX HCL hO
    rcases hc with ⟨rfl,rfl,hEe⟩ | ⟨ts,rfl,hr2,hto,hEe⟩
    ·have HFI:Hid (TlO B b L m ds X Y N tx w (.returned (.tuple #[.slice none 0 0,.int .i64 3,.int .i64 (j:Int)])) w2):=⟨hE2,hG2,hM2,.inl ⟨3,j,by decide,HE.out.trans hEe,rfl⟩⟩
     clear hE2 hG2 hM2 hT2 HE hul hEe hg2
     go_wp2_with fail
     go_ret3
     exact HFI.out
    ·obtain ⟨ra,rc,rfl⟩:=slice_of_row hr2
     obtain ⟨vs,v1,v2,v3⟩:=hT2.ex
     have hvl:vs.length=j:=by rw [← hul,← v1];simp
     rw [hvl] at v2
     have hs2:=hM2.size
     have HFI:Hid (∀ gn capn w3,w3.ownsRow w.heap.size 22 1 (.slice (some ⟨gn,0,none⟩) (j+1) capn) (j+1) (vs.map (·.1)++[.slice ra ts.length rc])→(w2.alloc (.cells #[.slice ra ts.length rc] 22)).grownBy w3 (Value.slice pa j pc).ownBlock→TlL B b L m ds X Y N tx E w (.slice (some ⟨gn,0,none⟩) (j+1) capn) (.int .i64 ((j+1:Nat):Int)) w3):=fun gn capn w3 h3 hg3=>by
      have hBa:Below w2.heap.size w2 (w2.alloc (.cells #[.slice ra ts.length rc] 22)):=(Below.refl _ _).alloc (Nat.le_refl _) _
      have hEa:=hE2.below (by omega) hBa
      have hGa:=hG2.below hBa
      have hMa:=hM2.andBelow hBa
      have hrw:∀ i,(Value.slice pa j pc).ownBlock=some i→w.heap.size≤i∧∃ cs,(w2.alloc (.cells #[.slice ra ts.length rc] 22)).heap[i]?=some (Obj.cells cs 22 (0,0)):=fun i e=>by
       rcases (v2.alloc (.cells #[.slice ra ts.length rc] 22)).2 with ⟨q,_⟩ | ⟨g',cap',cur,q,q1,q2,_⟩
       ·rw [q] at e;simp [Value.ownBlock] at e
       ·rw [q] at e
        have:g'=i:=by simpa [Value.ownBlock] using e
        subst this
        exact ⟨q1,cur,q2⟩
      have hne:∀ {k:Nat} {cs:Array Value} {t:TypeId} {f:Nat × Nat},(w2.alloc (.cells #[.slice ra ts.length rc] 22)).heap[k]?=some (Obj.cells cs t f)→t≠22→some k≠(Value.slice pa j pc).ownBlock:=fun {k cs t f} e ht q=>by
       obtain ⟨_,cs',q2⟩:=hrw k q.symm
       rw [e] at q2
       injection q2 with q2
       injection q2 with _ q2 _
       exact ht q2
      have hwB:B≤w.heap.size:=hB
      refine ⟨j+1,us++[ts],rfl,by omega,by simp [hul],⟨vs++[(.slice ra ts.length rc,ts)],by simp [v1],?_,fun u hu=>?_⟩,hEe,?_,?_,hMa.andThen hg3 fun i e=>.inl (hrw i e).1⟩
      ·rw [List.length_append,List.map_append,hvl]
       exact h3
      ·rcases List.mem_append.1 hu with hu | hu
       ·refine ⟨row_keep (v3 u hu).1 fun g cur _ e=>?_,(v3 u hu).2⟩
        have e':=(hBa.block g (Array.getElem?_eq_some_iff.1 e).1).trans e
        exact (hg3.block g (Array.getElem?_eq_some_iff.1 e').1 (hne e' (by decide))).trans e'
       ·obtain rfl:=List.mem_singleton.1 hu
        refine ⟨row_keep hr2 fun g cur _ e=>?_,hto⟩
        have e':=(hBa.block g (Array.getElem?_eq_some_iff.1 e).1).trans e
        exact (hg3.block g (Array.getElem?_eq_some_iff.1 e').1 (hne e' (by decide))).trans e'
      ·refine hEa.keepd (Kd.far hg3 fun i e=>?_) (fun _ q=>q) hEa.p.2.2 ?_ fun f hf=>.inl ?_
       ·have hp:=hEa.p.1
        refine ⟨by have:=(hrw i e).1;omega,fun cs t f ht q=>?_⟩
        exact hne q (by rintro rfl;simp at ht) e.symm
       ·obtain ⟨D,q,_⟩:=hEa.d.ex
        refine hg3.block m q.lt fun e=>?_
        obtain ⟨_,cs,q2⟩:=hrw m e.symm
        obtain ⟨es,c,q3,_⟩:=q
        rw [q3] at q2;cases q2
       ·obtain ⟨cs',hb',_⟩:=(hEa.f f hf).1.blk
        exact hg3.block f.1 hb'.lt (hne hb' (by decide))
      ·rcases hob:(Value.slice pa j pc).ownBlock with _ | r
       ·rw [hob] at hg3
        exact hGa.below ⟨hg3.os,hg3.tape,hg3.output,hg3.size,fun k hk=>hg3.block k hk (by simp)⟩
       ·rw [hob] at hg3
        obtain ⟨_,cs,q2⟩:=hrw r hob
        refine hGa.far hg3 (hGa.not_cells q2).1 (hGa.not_cells q2).2 fun c f q=>?_
        rw [q2] at q
        injection q with q
        injection q with _ q _
        cases q
     clear hE2 hG2 hM2 hT2 HE hEe hg2 v3 v1 hto hr2
     go_wp2_with (at_builtin;refine wpList_append_lies _ (by rfl) _ _ 296 (by rfl) w.heap.size 22 i0 (.slice none 0 0) 1 24 Tryz.underlying296 hi hz0 hz1 hz2 rfl (by decide) _ j (vs.map (·.1)) (by rfl) (v2.alloc _) ⟨w2.heap.size,0,none⟩ 1 1 [.slice ra ts.length rc] (by rfl) rfl (World.news_of_block (heap_alloc_new w2 _)) (by simp [Value.oneCell']) (by decide) (by unfold maxLen;omega) (by omega) (by simp;omega) (w2.heap.size+1) (by simp) ?_;intro gn capn w3 hown3 hgrow3 hat3 hlt3)
     go_roundw
     case rel=>exact (show TlL _ _ _ _ _ _ _ _ _ _ _ _ (.int .i64 ((j:Int)+1)) _ from HFI.out _ _ _ hown3 hgrow3)
     case measure=>simp [intOf];omega
  ·have hjI:¬ (j:Int)<(tx.length:Int):=by omega
   obtain rfl:j=tx.length:=by omega
   have hEn:E=none:=by rw [← hEj];simp [Pl.tkE]
   subst hEn
   obtain ⟨pa,pc,rfl⟩:=hTk.form hul
   have HFI:Hid (TlO B b L m ds X Y N tx w (.returned (.tuple #[.slice pa tx.length pc,.int .i64 0,.int .i64 0])) wr):=⟨hEr,hGr,hMr,.inr ⟨_,us,HE.out,rfl,hul,hTk⟩⟩
   clear hEr hGr hMr hTk hEj HE hul
   go_wp2_with fail
   go_ret3
   exact HFI.out
end Go.Proofs.YtcmgclckknpecaaGreatDoor
