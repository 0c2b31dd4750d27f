import Derived.Test.YtcmgclckknpecaaGreatDoorKao
import Derived.Test.YtcmgclckknpecaaGreatDoorKat
import Derived.Test.YtcmgclckknpecaaGreatDoorKam
import Derived.BigQuiet
import Derived.Deep.QuietTactic
namespace Go.Proofs.YtcmgclckknpecaaGreatDoor
open Go.RowKit Go.Maps Go.Shelf
set_option maxHeartbeats 400000 in
theorem clone_big (s:ByteArray) (w:World) (hm:s.size≤281474976710656):Calls Tryz.prog 158 #[.string s] w fun e w'=>e=.returned (.string s)∧Below w.heap.size w w':=by
 go_enter Tryz.func158,Tryz.ntmps158
 go_wp2_with (go_at_call 233;refine (Any.stringslite_Clone lays316 s _ hm).mono ?_;rintro e w1 ⟨rfl,hB⟩)
 go_ret
 exact ⟨rfl,hB⟩
theorem info3:(Tryz.prog.info? 3).map (fun i=>(i.zero,i.size,i.bytes))=some (some (.int .i64 0),1,8):=by kernel_rfl
theorem row_mv {B:Nat} {F X Y:Nat→Prop} {a b:World} {base:Nat} {t:TypeId} {sz n:Nat} {v:Value} {xs:List Value} (h:a.ownsRow base t sz v n xs) (hm:Mv B F X Y a b) (ht:t≠3) (hF:∀ i c f,a.heap[i]?=some (.cells c t f)→¬ F i∧¬ X i∧¬ Y i):b.ownsRow base t sz v n xs:=by
 refine ⟨h.1,?_⟩
 rcases h.2 with h | ⟨g,cap,cur,rfl,h1,h2,r⟩
 ·exact .inl h
 ·obtain ⟨f1,f2,f3⟩:=hF g _ _ h2
  exact .inr ⟨g,cap,cur,rfl,h1,hm.cells h2 ht f1 f2 f3,r⟩
theorem Gl.not_cells {B:Nat} {X Y:Nat→Prop} {N:Nat} {w:World} (h:Gl B X Y N w) {i:Nat} {c:Array Value} {t:TypeId} {f:Nat × Nat} (hc:w.heap[i]?=some (.cells c t f)):¬ X i∧¬ Y i:=by
 refine ⟨fun q=>?_,fun q=>?_⟩
 ·obtain ⟨_,es,c,e⟩:=h.x_map q
  rw [hc] at e;cases e
 ·obtain ⟨_,es,c,e⟩:=h.y_map q
  rw [hc] at e;cases e
structure AdO (B:Nat) (X Y:Nat→Prop) (N:Nat) (w w':World) (Y':Nat→Prop):Prop where
 g:Gl B X Y' N w'
 s:∀ i,Y i→Y' i
 t:∀ i,Y' i→Y i∨w.heap.size≤i
 m:Mv B (fun _=>False) X Y w w'
structure AdL (B:Nat) (X Y:Nat→Prop) (N:Nat) (ts:List Tk) (w:World) (iv:Value) (wr:World):Prop where
 ex:∃ (j:Nat) (Y':Nat→Prop),iv=.int .i64 (j:Int)∧j≤ts.length∧AdO B X Y (N+j) w wr Y'
theorem slice_of_row' {w:World} {b sz n:Nat} {t:TypeId} {v:Value} {xs:List Value} (h:w.ownsRow b t sz v n xs):∃ p c,v=.slice p n c:=by
 rcases h.2 with ⟨rfl,rfl,_⟩ | ⟨g',cap,c2,rfl,_⟩
 ·exact ⟨none,0,rfl⟩
 ·exact ⟨_,_,rfl⟩
theorem AdO.put {B:Nat} {X Y Y':Nat→Prop} {N N' y n:Nat} {w wb w3 w4:World} {DX DY:Nat→DataW Value} {kl:Lit} {v v':Value} (hI:Gi B X Y' N DX DY wb) (hs:∀ i,Y i→Y' i) (ht:∀ i,Y' i→Y i∨w.heap.size≤i) (hm:Mv B (fun _=>False) X Y w wb) (hy:Y' y) (hv:(DY y).atKey kl nlS=.held v) (hg3:wb.grownBy w3 v.ownBlock) (hg4:w3.grownBy w4 (some y)) (ho:w4.ownsMap Tryz.prog 3 slE y n ((DY y).put kl (.held v'))) (hN:N≤N') (hn:n≤N') (hkl:WideAt.IsKeyLit kl) (hsv:Gs B v' w3) (hu:∀ r,v'.ownBlock=some r→v.ownBlock=some r∨wb.heap.size≤r):AdO B X Y N' w w4 Y':=by
 obtain ⟨_,ny,_,hoy⟩:=hI.y y hy
 refine ⟨⟨DX,_,hI.set_y (N':=N') hy hN hv hg3 hg4 ho hn (fun k hk=>atKey_put_other hk _ _) (atKey_put_same hoy.isMap hkl _ _) hsv hu⟩,hs,ht,?_⟩
 refine (hm.andThen hg3 fun i e=>?_).andThen hg4 fun i e=>?_
 ·obtain ⟨v1,e1,e2⟩:=hI.yk y kl hy
  rw [hv] at e1;injection e1 with e1;subst e1
  obtain ⟨xs,hx,_⟩:=e2.ex
  rcases hx.2 with ⟨rfl,_⟩ | ⟨g,cap,cur,rfl,hg,hh,_⟩
  ·simp [Value.ownBlock] at e
  ·have:g=i:=by simpa [Value.ownBlock] using e
   subst this
   exact .inr (.inr (.inr (.inr ⟨hg,_,_,hh⟩)))
 ·injection e with e
  subst e
  rcases ht _ hy with q | q
  ·exact .inr (.inr (.inr (.inl q)))
  ·exact .inl q
theorem Gs.app {B:Nat} {w3:World} {xs:List Int} {p:Int} {g cap:Nat} (hr:Ris (-1) xs) (ho:w3.ownsRow B 3 1 (.slice (some ⟨g,0,none⟩) (xs.length+1) cap) (xs.length+1) (itv xs++[.int .i64 p])) (hp:p≤1099511627775) (h0:0≤p) (hl:∀ x,xs.getLast?=some x→x<p):Gs B (.slice (some ⟨g,0,none⟩) (xs.length+1) cap) w3 :=
 ⟨xs++[p],by rw [List.length_append];simpa [itv] using ho,Ris.snoc hp hr (by omega) hl⟩
set_option maxRecDepth 100000 in
set_option maxHeartbeats 4000000 in
theorem ixadd_any (B:Nat) (X Y:Nat→Prop) (N x:Nat) (id:Int) (base:Nat) (va:Value) (ts:List Tk) (w:World) (hBw:B≤w.heap.size) (hG:Gl B X Y N w) (hx:X x) (hid:(Lit.int .i64 id).wf=true) (hrow:w.ownsRow base 27 4 va ts.length (ts.flatMap tenc)) (hl:ts.length≤300) (hN:N≤4611686018427387904)
  (HT:Hid (∀ t∈ts,t.1.size≤281474976710656∧t.2.1≤1099511627775)) :
  Calls Tryz.prog 230 #[.map (some x),.int .i64 id,va] w fun e w'=>e=.returned (.tuple #[])∧∃ Y',AdO B X Y (N+ts.length) w w' Y':=by
 obtain ⟨i0,hi,hz0,hz1,hz2⟩:=info_parts info3
 obtain ⟨a,cap,g0,rfl,_⟩:=tr_form hrow
 have HTR:Hid (∀ W,Mv B (fun _=>False) X Y w W→∀ k (hk:k<ts.length),∃ g,a=some ⟨g,0,none⟩∧W.cell? ⟨g,k*4,none⟩=some (.string (ts[k]).1)∧W.cell? ⟨g,k*4+1,none⟩=some (.int .i64 ((ts[k]).2.1:Int))∧W.cell? ⟨g,k*4+2,none⟩=some (.int .i64 ((ts[k]).2.2.1:Int))∧W.cell? ⟨g,k*4+3,none⟩=some (.int .i64 ((ts[k]).2.2.2:Int))):=fun W hW k hk=>by
  obtain ⟨a',cap',g,hv,ha,_,hT⟩:=tr_form (row_mv hrow hW (by decide) fun i c f q=>⟨fun h=>h,hG.not_cells q⟩)
  injection hv with h1 h2 h3
  subst h1
  exact ⟨g,ha (by omega),hT.c k hk⟩
 have hmm:=@run_makeMap Tryz.prog
 have hme1:∀ (y:Nat) (W:World),(binOp .eql 337 (.map (some y)) (.map none)).run Tryz.prog W=.ok (.bool false) W:=fun y W=>by kernel_rfl
 have hme0:∀ (W:World),(binOp .eql 337 (.map none) (.map none)).run Tryz.prog W=.ok (.bool true) W:=fun W=>by kernel_rfl
 clear hrow
 go_enter Tryz.func230,Tryz.ntmps230
 go_wp2_with fail
 go_loopw [12] (fun iv wr=>AdL B X Y N ts w iv wr) (fun iv _=>ts.length - (intOf iv).toNat)
 case atStart=>exact ⟨0,Y,rfl,by omega,hG,fun _ h=>h,fun _ h=>.inl h,Mv.refl _ _ _ _ _⟩
 case round =>
  obtain ⟨j,Y',rfl,hj,hO⟩:=hrel.ex
  clear hrel
  by_cases hjl:j<ts.length
  ·have hjI:(j:Int)<(ts.length:Int):=by omega
   obtain ⟨g,rfl,c0,c1,c2,c3⟩:=HTR.out wr hO.m j hjl
   obtain ⟨hts,htp⟩:=HT.out _ (List.getElem_mem hjl)
   obtain ⟨⟨s,p,fr,tq⟩,hT⟩:∃ T,ts[j]=T:=⟨_,rfl⟩
   rw [hT] at c0 c1 c2 c3 hts htp
   simp only at c0 c1 c2 c3 hts htp
   clear hT
   have hBa:Below wr.heap.size wr (wr.alloc (.cells #[.string s,.int .i64 (p:Int),.int .i64 (fr:Int),.int .i64 (tq:Int)] 27)):=(Below.refl _ wr).alloc (Nat.le_refl _) _
   have hta:=heap_alloc_new wr (.cells #[.string s,.int .i64 (p:Int),.int .i64 (fr:Int),.int .i64 (tq:Int)] 27)
   obtain ⟨DX,DY,hI⟩:=(hO.g.below hBa).ex
   have hMa:=hO.m.andBelow hBa
   have hsz:=hO.m.size
   obtain ⟨_,nx,hnx,hox⟩:=hI.x x hx
   have hsl:s.size≤maxLen:=by unfold maxLen;omega
   rcases hI.xk x (.string s.data.toList) hx with hno | ⟨y,hyes,hy⟩
   ·have hat:=hno nlM
    have hBm:Below (wr.alloc (.cells #[.string s,.int .i64 (p:Int),.int .i64 (fr:Int),.int .i64 (tq:Int)] 27)).heap.size (wr.alloc (.cells #[.string s,.int .i64 (p:Int),.int .i64 (fr:Int),.int .i64 (tq:Int)] 27)) ((wr.alloc (.cells #[.string s,.int .i64 (p:Int),.int .i64 (fr:Int),.int .i64 (tq:Int)] 27)).alloc (.map #[] 0)):=(Below.refl _ _).alloc (Nat.le_refl _) _
    have hom:((wr.alloc (.cells #[.string s,.int .i64 (p:Int),.int .i64 (fr:Int),.int .i64 (tq:Int)] 27)).alloc (.map #[] 0)).ownsMap Tryz.prog 3 slE (wr.alloc (.cells #[.string s,.int .i64 (p:Int),.int .i64 (fr:Int),.int .i64 (tq:Int)] 27)).heap.size 0 (.map []):=World.ownsMap_made _ _ _ _
    have hIm:=hI.new_y hBm (Nat.le_refl _) (by simp;omega) hom
    have HOX:Hid ((wr.alloc (.cells #[.string s,.int .i64 (p:Int),.int .i64 (fr:Int),.int .i64 (tq:Int)] 27)).ownsMap Tryz.prog 9 mpE x nx (DX x)):=hox
    have HAT:Hid ((DX x).atKey (.string s.data.toList) nlM=.held (.map none)):=hat
    have HCL:Hid (∀ W,Calls Tryz.prog 158 #[.string s] W fun e w'=>e=.returned (.string s)∧Below W.heap.size W w'):=fun W=>clone_big s W (by omega)
    have hsa:(wr.alloc (.cells #[.string s,.int .i64 (p:Int),.int .i64 (fr:Int),.int .i64 (tq:Int)] 27)).heap.size=wr.heap.size+1:=by simp
    obtain ⟨y,hyd⟩:∃ y,(wr.alloc (.cells #[.string s,.int .i64 (p:Int),.int .i64 (fr:Int),.int .i64 (tq:Int)] 27)).heap.size=y:=⟨_,rfl⟩
    rw [hyd] at hom hIm
    have HY0:Hid (0<y∧y<((wr.alloc (.cells #[.string s,.int .i64 (p:Int),.int .i64 (fr:Int),.int .i64 (tq:Int)] 27)).alloc (.map #[] 0)).heap.size):=⟨by omega,by simp;omega⟩
    have hyr:y=wr.heap.size+1:=by omega
    have HGM:Hid (Gi B X (fun i=>Y' i∨i=y) (N+j) DX (fun i=>if i=y then .map [] else DY i) ((wr.alloc (.cells #[.string s,.int .i64 (p:Int),.int .i64 (fr:Int),.int .i64 (tq:Int)] 27)).alloc (.map #[] 0))∧Mv B (fun _=>False) X Y w ((wr.alloc (.cells #[.string s,.int .i64 (p:Int),.int .i64 (fr:Int),.int .i64 (tq:Int)] 27)).alloc (.map #[] 0))∧((wr.alloc (.cells #[.string s,.int .i64 (p:Int),.int .i64 (fr:Int),.int .i64 (tq:Int)] 27)).alloc (.map #[] 0)).ownsMap Tryz.prog 3 slE y 0 (.map [])∧((wr.alloc (.cells #[.string s,.int .i64 (p:Int),.int .i64 (fr:Int),.int .i64 (tq:Int)] 27)).alloc (.map #[] 0)).ownsMap Tryz.prog 9 mpE x nx (DX x)∧((wr.alloc (.cells #[.string s,.int .i64 (p:Int),.int .i64 (fr:Int),.int .i64 (tq:Int)] 27)).alloc (.map #[] 0)).heap[wr.heap.size]?=some (.cells #[.string s,.int .i64 (p:Int),.int .i64 (fr:Int),.int .i64 (tq:Int)] 27 (0,0))∧(∀ i,Y i→Y' i)∧(∀ i,Y' i→Y i∨w.heap.size≤i)∧(∀ kl,(∀ z,(DX x).atKey kl z=z)∨∃ y,(∀ z,(DX x).atKey kl z=.held (.map (some y)))∧Y' y)):=⟨hIm,hMa.andBelow hBm,hom,hox.alloc _,(hBm.block wr.heap.size (by simp)).trans hta,hO.s,hO.t,fun kl=>hI.xk x kl hx⟩
    clear hI hox hat hno hBa hta hMa hO hom hIm hBm hsa
    go_wp2_with (first | (at_lookup;refine wpList_lookup_tok _ rfl _ _ 173 rfl 9 337 keyS Tryz.underlying173 mpE (fun _ _ _ h=>mpE_held h) (zero337 _) nlM [] rfl x nx (DX x) rfl HOX.out _ _ rfl (klS hsl) (.map none) HAT.out ?_))
    refine (HCL.out _).mono ?_
    rintro e wc ⟨rfl,hBc⟩
    obtain ⟨hIm,hMm,hom,hoxm,htm,hs',ht',hxk⟩:=HGM.out
    have hIc:=hIm.below hBc
    have hMc:=hMm.andBelow hBc
    have hoxc:=hoxm.kept (grown_of_below none hBc) (by simp)
    have hoyc:=hom.kept (grown_of_below none hBc) (by simp)
    have htc:=(hBc.block wr.heap.size (by simp;omega)).trans htm
    have hsc:=hBc.size
    rw [← hyr]
    have hyl:y<wc.heap.size:=Nat.lt_of_lt_of_le HY0.out.2 hsc
    have hyw:w.heap.size≤y:=by omega
    clear hIm hMm hom hoxm htm HGM HCL HOX HAT hBc hsc hyd hyr
    have HIC:Hid (Gi B X (fun i=>Y' i∨i=y) (N+j) DX (fun i=>if i=y then .map [] else DY i) wc∧Mv B (fun _=>False) X Y w wc∧(∀ kl,(∀ z,(DX x).atKey kl z=z)∨∃ y,(∀ z,(DX x).atKey kl z=.held (.map (some y)))∧Y' y)):=⟨hIc,hMc,hxk⟩
    clear hIc hMc hxk
    have hw0c:wc.cell? ⟨wr.heap.size,1,none⟩=some (.int .i64 (p:Int)):=by simp [World.cell?,htc]
    have HW5:Hid (∀ W,wc.grownBy W (some x)→W.ownsMap Tryz.prog 3 slE y 0 (.map [])∧W.heap[wr.heap.size]?=some (.cells #[.string s,.int .i64 (p:Int),.int .i64 (fr:Int),.int .i64 (tq:Int)] 27 (0,0))):=fun W hW=>⟨hoyc.kept hW (fun e=>by injection e with e;subst e;exact HIC.out.1.d _ hx (.inr rfl)),(hW.block wr.heap.size (Array.getElem?_eq_some_iff.1 htc).1 (fun e=>by injection e with e;subst e;obtain ⟨es,c,q,_⟩:=hoxc;rw [htc] at q;cases q)).trans htc⟩
    clear hoyc htc
    go_wp2_with (first
     | (at_mapUpdate;refine wpList_mapUpdate_own _ rfl _ _ _ 173 rfl 9 337 keyS Tryz.underlying173 mpE x nx (DX x) rfl hoxc (by unfold maxLen;omega) _ _ _ rfl rfl (klS hsl) (.held (.map (some y))) [] rfl ?_;intro w5 hown5 hgrow5;obtain ⟨hoy5,ht5⟩:=HW5.out w5 hgrow5)
     | (at_lookup;refine wpList_lookup_tok _ rfl _ _ 337 rfl 3 55 keyI Tryz.underlying337 slE (fun _ _ _ h=>slE_held h) (zero55 _) nlS [] rfl y 0 (.map []) rfl hoy5 _ _ rfl (klI hid) (.slice none 0 0) rfl ?_))
    have t51:w5.cell? ⟨wr.heap.size,1,none⟩=some (.int .i64 (p:Int)):=by simp [World.cell?,ht5]
    go_quiet (fail)
    have hwB:=below_drewN (Below.refl w5.heap.size w5) nq
    have hwt:(w5.drewN nq).cell? ⟨wr.heap.size,1,none⟩=some (.int .i64 (p:Int)):=by go_simp
    obtain ⟨wb,hwb⟩:∃ wb,w5.drewN nq=wb:=⟨_,rfl⟩
    rw [hwb] at hwB hwt ⊢
    clear hwb
    have hs5:=hgrow5.size
    have hsb:=hwB.size
    have hoyb:wb.ownsMap Tryz.prog 3 slE y 0 (.map []):=hoy5.kept (grown_of_below none hwB) (by simp)
    have HOY:Hid (∀ W o,(wb.alloc o).grownBy W none→W.ownsMap Tryz.prog 3 slE y 0 (.map [])):=fun W o hW=>(hoyb.alloc o).kept hW (by simp)
    clear hoy5 hoyb ht5 t51 HW5
    go_wp2_with (first
     | (at_builtin;refine wpList_append_lies _ (by rfl) _ _ 55 (by rfl) B 3 i0 (.int .i64 0) 1 8 Tryz.underlying55 hi hz0 hz1 hz2 rfl (by decide) _ 0 [] (by rfl) (World.ownsRow_nil _ _ _ _) ⟨wb.heap.size,0,none⟩ 1 1 [.int .i64 (p:Int)] (by rfl) rfl (World.news_of_block (heap_alloc_new wb _)) (by simp [Value.oneCell']) (by decide) (by unfold maxLen;omega) (by omega) (by have hq:=hwB.size;simp at hq ⊢;omega) (wb.heap.size+1) (by simp) ?_;intro gn capn w3 hown3 hgrow3 hat3 hlt3;have hoy3:=HOY.out w3 _ hgrow3)
     | (at_mapUpdate;refine wpList_mapUpdate_own _ rfl _ _ _ 337 rfl 3 55 keyI Tryz.underlying337 slE y 0 (.map []) rfl hoy3 (by decide) _ _ _ rfl rfl (klI hid) (.held (.slice (some ⟨gn,0,none⟩) (0+1) capn)) [] rfl ?_;intro w4 hown4 hgrow4;go_frame))
    refine ⟨⟨j+1,(fun i=>Y' i∨i=y),by go_num,by omega,?_⟩,by simp [intOf];omega⟩
    obtain ⟨hIc,hMc,hxk⟩:=HIC.out
    have hI5:=(hIc.set_x (N':=N+(j+1)) hx (by omega) hgrow5 hown5 (by omega) fun kl=>by
     by_cases hk:kl=.string s.data.toList
     ·subst hk
      exact .inr ⟨y,fun z=>atKey_put_same (k:=.string s.data.toList) hoxc.isMap trivial _ z,.inr rfl⟩
     ·rcases hxk kl with q | ⟨y',q,hy'⟩
      ·exact .inl fun z=>(atKey_put_other hk _ z).trans (q z)
      ·exact .inr ⟨y',fun z=>(atKey_put_other hk _ z).trans (q z),.inl hy'⟩).below hwB
    have hM5:=(hMc.andThen hgrow5 fun i e=>by cases e;exact .inr (.inr (.inl hx))).andBelow hwB
    have hBb:Below wb.heap.size wb (wb.alloc (.cells #[.int .i64 (p:Int)] 3)):=(Below.refl _ _).alloc (Nat.le_refl _) _
    refine AdO.put (y:=y) (kl:=.int .i64 id) (v:=.slice none 0 0) (hI5.below hBb) (fun i h=>.inl (hs' i h)) (fun i h=>?_) (hM5.andBelow hBb) (.inr rfl) ?_ hgrow3 hgrow4 (n:=0+1) ?_ (Nat.le_refl _) (by omega) trivial (Gs.app (xs:=[]) trivial hown3 (by omega) (by omega) (by simp)) (fun r hr=>?_)
    ·rcases h with h | h
     ·exact ht' i h
     ·subst h;exact .inr (by omega)
    ·simp only [if_true];rfl
    ·simp only [if_true];exact hown4
    ·have:gn=r:=by simpa [Value.ownBlock] using hr
     subst this
     rcases hat3 with q | q
     ·simp [Value.ownBlock] at q
     ·right;simp;omega
   ·have hat:=hyes nlM
    obtain ⟨_,ny,hny,hoy⟩:=hI.y y hy
    obtain ⟨v,hv,hgs⟩:=hI.yk y (.int .i64 id) hy
    obtain ⟨xs,hxs,hris⟩:=hgs.ex
    have hxl:=hris.len (by omega)
    have HOX:Hid ((wr.alloc (.cells #[.string s,.int .i64 (p:Int),.int .i64 (fr:Int),.int .i64 (tq:Int)] 27)).ownsMap Tryz.prog 9 mpE x nx (DX x)):=hox
    have HOYa:Hid ((wr.alloc (.cells #[.string s,.int .i64 (p:Int),.int .i64 (fr:Int),.int .i64 (tq:Int)] 27)).ownsMap Tryz.prog 3 slE y ny (DY y)):=hoy
    have HAT:Hid ((DX x).atKey (.string s.data.toList) nlM=.held (.map (some y))):=hat
    have HOY:Hid (∀ wb,Below (wr.alloc (.cells #[.string s,.int .i64 (p:Int),.int .i64 (fr:Int),.int .i64 (tq:Int)] 27)).heap.size (wr.alloc (.cells #[.string s,.int .i64 (p:Int),.int .i64 (fr:Int),.int .i64 (tq:Int)] 27)) wb→∀ W o,(wb.alloc o).grownBy W v.ownBlock→W.ownsMap Tryz.prog 3 slE y ny (DY y)):=fun wb hB W o hW=>by
     have h1:wb.ownsMap Tryz.prog 3 slE y ny (DY y):=hoy.kept (grown_of_below none hB) (by simp)
     exact (h1.alloc o).kept hW (Ne.symm (map_ne_row hoy hxs))
    have HSK:Hid (∀ wb,Below (wr.alloc (.cells #[.string s,.int .i64 (p:Int),.int .i64 (fr:Int),.int .i64 (tq:Int)] 27)).heap.size (wr.alloc (.cells #[.string s,.int .i64 (p:Int),.int .i64 (fr:Int),.int .i64 (tq:Int)] 27)) wb→AdO B X Y (N+(j+1)) w wb Y'):=fun wb hB =>
     ⟨(show Gl B X Y' (N+j) wb from ⟨DX,DY,hI.below hB⟩).mono (by omega),hO.s,hO.t,hMa.andBelow hB⟩
    have HFIN:Hid (∀ wb o,Below (wr.alloc (.cells #[.string s,.int .i64 (p:Int),.int .i64 (fr:Int),.int .i64 (tq:Int)] 27)).heap.size (wr.alloc (.cells #[.string s,.int .i64 (p:Int),.int .i64 (fr:Int),.int .i64 (tq:Int)] 27)) wb→∀ gn capn w3 w4,(wb.alloc o).grownBy w3 v.ownBlock→w3.ownsRow B 3 1 (.slice (some ⟨gn,0,none⟩) (xs.length+1) capn) (xs.length+1) (itv xs++[.int .i64 (p:Int)])→(v.ownBlock=some gn∨gn=wb.heap.size+1)→w4.ownsMap Tryz.prog 3 slE y (ny+1) ((DY y).put (.int .i64 id) (.held (.slice (some ⟨gn,0,none⟩) (xs.length+1) capn)))→w3.grownBy w4 (some y)→(∀ z,xs.getLast?=some z→z<(p:Int))→AdO B X Y (N+(j+1)) w w4 Y'):=fun wb o hB gn capn w3 w4 h3 h3o h3a h4o h4 hl=>by
     have hBb:Below wb.heap.size wb (wb.alloc o):=(Below.refl _ _).alloc (Nat.le_refl _) _
     exact AdO.put (N:=N+j) ((hI.below hB).below hBb) hO.s hO.t ((hMa.andBelow hB).andBelow hBb) hy hv h3 h4 h4o (by omega) (by omega) trivial (Gs.app hris h3o (by omega) (by omega) hl) (fun r hr=>by
      have:gn=r:=by simpa [Value.ownBlock] using hr
      subst this
      rcases h3a with q | q
      ·exact .inl q
      ·right;simp;omega)
    have HXB:Hid (∀ wb,Below (wr.alloc (.cells #[.string s,.int .i64 (p:Int),.int .i64 (fr:Int),.int .i64 (tq:Int)] 27)).heap.size (wr.alloc (.cells #[.string s,.int .i64 (p:Int),.int .i64 (fr:Int),.int .i64 (tq:Int)] 27)) wb→wb.ownsRow B 3 1 v xs.length (itv xs)):=fun wb hB=>ownsRow_below hxs hB
    cases xs with
    | nil =>
     obtain ⟨av,cv,rfl⟩:∃ av cv,v=.slice av 0 cv:=slice_of_row' hxs
     have HV:Hid ((DY y).atKey (.int .i64 id) nlS=.held (.slice av 0 cv)):=hv
     clear hI hoy hox hat hv hgs hxs hris hyes hBa hta hMa hO hxl
     go_wp2_with (first | (at_lookup;first | (refine wpList_lookup_tok _ rfl _ _ 173 rfl 9 337 keyS Tryz.underlying173 mpE (fun _ _ _ h=>mpE_held h) (zero337 _) nlM [] rfl x nx (DX x) rfl HOX.out _ _ rfl (klS hsl) (.map (some y)) HAT.out ?_) | (refine wpList_lookup_tok _ rfl _ _ 337 rfl 3 55 keyI Tryz.underlying337 slE (fun _ _ _ h=>slE_held h) (zero55 _) nlS [] rfl y ny (DY y) rfl HOYa.out _ _ rfl (klI hid) _ HV.out ?_)) | go_in)
     go_quiet (fail)
     have hwB:=below_drewN (Below.refl (wr.alloc (.cells #[.string s,.int .i64 (p:Int),.int .i64 (fr:Int),.int .i64 (tq:Int)] 27)).heap.size (wr.alloc (.cells #[.string s,.int .i64 (p:Int),.int .i64 (fr:Int),.int .i64 (tq:Int)] 27))) nq
     have hwt:((wr.alloc (.cells #[.string s,.int .i64 (p:Int),.int .i64 (fr:Int),.int .i64 (tq:Int)] 27)).drewN nq).cell? ⟨wr.heap.size,1,none⟩=some (.int .i64 (p:Int)):=by go_simp
     have hxb:=HXB.out _ hwB
     obtain ⟨wb,hwb⟩:∃ wb,(wr.alloc (.cells #[.string s,.int .i64 (p:Int),.int .i64 (fr:Int),.int .i64 (tq:Int)] 27)).drewN nq=wb:=⟨_,rfl⟩
     rw [hwb] at hwB hxb hwt ⊢
     clear hwb HXB HOX HOYa HAT HV HSK
     go_wp2_with (first | (at_builtin;refine wpList_append_lies _ (by rfl) _ _ 55 (by rfl) B 3 i0 (.int .i64 0) 1 8 Tryz.underlying55 hi hz0 hz1 hz2 rfl (by decide) _ 0 (itv []) (by rfl) (hxb.alloc _) ⟨wb.heap.size,0,none⟩ 1 1 [.int .i64 (p:Int)] (by rfl) rfl (World.news_of_block (heap_alloc_new wb _)) (by simp [Value.oneCell']) (by decide) (by unfold maxLen;omega) (by omega) (by have hq:=hwB.size;simp at hq ⊢;omega) (wb.heap.size+1) (by simp) ?_;intro gn capn w3 hown3 hgrow3 hat3 hlt3;have hoy3:=HOY.out wb hwB w3 _ hgrow3) | (at_mapUpdate;refine wpList_mapUpdate_own _ rfl _ _ _ 337 rfl 3 55 keyI Tryz.underlying337 slE y ny (DY y) rfl hoy3 (by unfold maxLen;omega) _ _ _ rfl rfl (klI hid) (.held (.slice (some ⟨gn,0,none⟩) (0+1) capn)) [] rfl ?_;intro w4 hown4 hgrow4;go_frame) | go_in)
     exact ⟨⟨j+1,Y',by go_num,by omega,HFIN.out wb _ hwB _ _ _ _ hgrow3 hown3 hat3 hown4 hgrow4 (by simp)⟩,by simp [intOf];omega⟩
    | cons x0 xr =>
     obtain ⟨r,cv,last,rfl,hcl,hlast⟩:∃ r cv last,v=.slice (some ⟨r,0,none⟩) (xr.length+1) cv∧(wr.alloc (.cells #[.string s,.int .i64 (p:Int),.int .i64 (fr:Int),.int .i64 (tq:Int)] 27)).cell? ⟨r,xr.length,none⟩=some (.int .i64 last)∧(x0 :: xr).getLast?=some last:=by
      rcases hxs.2 with ⟨_,h0⟩ | ⟨r,cv,cur,rfl,_,hh,_,_,_,ht⟩
      ·simp at h0
      ·refine ⟨r,cv,(x0 :: xr).getLast (by simp),rfl,?_,List.getLast?_eq_some_getLast (by simp)⟩
       have h5:(itv (x0 :: xr))[xr.length]?=some (.int .i64 ((x0 :: xr).getLast (by simp))):=by
        simp only [itv,List.getElem?_map]
        rw [List.getLast_eq_getElem,List.getElem?_eq_getElem (by simp)]
        simp
       rw [← ht,List.getElem?_take_of_lt (by simp)] at h5
       have h6:cur[xr.length]?=some (.int .i64 ((x0 :: xr).getLast (by simp))):=by simpa using h5
       simp [World.cell?,hh,h6]
     have HV:Hid ((DY y).atKey (.int .i64 id) nlS=.held (.slice (some ⟨r,0,none⟩) (xr.length+1) cv)):=hv
     have hxl2:xr.length≤1099511627776:=by simp at hxl;omega
     have HLA:Hid ((x0 :: xr).getLast?=some last):=hlast
     clear hI hoy hox hat hv hgs hxs hris hyes hBa hta hMa hO hxl hlast
     have hwp:IntKind.i64.wrap (xr.length:Int)=(xr.length:Int):=by rw [IntKind.wrap_i64];omega
     have hb0:((xr.length:Int)+1 == 0)=false:=by simp;omega
     have hbx:(xr.length:Int)<(xr.length:Int)+1:=by omega
     by_cases hlp:last<(p:Int)
     ·go_wp2_with (first | (at_lookup;first | (refine wpList_lookup_tok _ rfl _ _ 173 rfl 9 337 keyS Tryz.underlying173 mpE (fun _ _ _ h=>mpE_held h) (zero337 _) nlM [] rfl x nx (DX x) rfl HOX.out _ _ rfl (klS hsl) (.map (some y)) HAT.out ?_) | (refine wpList_lookup_tok _ rfl _ _ 337 rfl 3 55 keyI Tryz.underlying337 slE (fun _ _ _ h=>slE_held h) (zero55 _) nlS [] rfl y ny (DY y) rfl HOYa.out _ _ rfl (klI hid) _ HV.out ?_)) | go_in)
      go_quiet (fail)
      have hwB:=below_drewN (Below.refl (wr.alloc (.cells #[.string s,.int .i64 (p:Int),.int .i64 (fr:Int),.int .i64 (tq:Int)] 27)).heap.size (wr.alloc (.cells #[.string s,.int .i64 (p:Int),.int .i64 (fr:Int),.int .i64 (tq:Int)] 27))) nq
      have hwt:((wr.alloc (.cells #[.string s,.int .i64 (p:Int),.int .i64 (fr:Int),.int .i64 (tq:Int)] 27)).drewN nq).cell? ⟨wr.heap.size,1,none⟩=some (.int .i64 (p:Int)):=by go_simp
      have hxb:=HXB.out _ hwB
      obtain ⟨wb,hwb⟩:∃ wb,(wr.alloc (.cells #[.string s,.int .i64 (p:Int),.int .i64 (fr:Int),.int .i64 (tq:Int)] 27)).drewN nq=wb:=⟨_,rfl⟩
      rw [hwb] at hwB hxb hwt ⊢
      clear hwb HXB HOX HOYa HAT HV HSK
      go_wp2_with (first | (at_builtin;refine wpList_append_lies _ (by rfl) _ _ 55 (by rfl) B 3 i0 (.int .i64 0) 1 8 Tryz.underlying55 hi hz0 hz1 hz2 rfl (by decide) _ (xr.length+1) (itv (x0 :: xr)) (by rfl) (hxb.alloc _) ⟨wb.heap.size,0,none⟩ 1 1 [.int .i64 (p:Int)] (by rfl) rfl (World.news_of_block (heap_alloc_new wb _)) (by simp [Value.oneCell']) (by decide) (by unfold maxLen;omega) (by omega) (by have hq:=hwB.size;simp at hq ⊢;omega) (wb.heap.size+1) (by simp) ?_;intro gn capn w3 hown3 hgrow3 hat3 hlt3;have hoy3:=HOY.out wb hwB w3 _ hgrow3) | (at_mapUpdate;refine wpList_mapUpdate_own _ rfl _ _ _ 337 rfl 3 55 keyI Tryz.underlying337 slE y ny (DY y) rfl hoy3 (by unfold maxLen;omega) _ _ _ rfl rfl (klI hid) (.held (.slice (some ⟨gn,0,none⟩) (xr.length+1+1) capn)) [] rfl ?_;intro w4 hown4 hgrow4;go_frame) | go_in)
      exact ⟨⟨j+1,Y',by go_num,by omega,HFIN.out wb _ hwB _ _ _ _ hgrow3 hown3 hat3 hown4 hgrow4 (fun z hz=>by rw [HLA.out] at hz;injection hz with hz;omega)⟩,by simp [intOf];omega⟩
     ·go_wp2_with (first | (at_lookup;first | (refine wpList_lookup_tok _ rfl _ _ 173 rfl 9 337 keyS Tryz.underlying173 mpE (fun _ _ _ h=>mpE_held h) (zero337 _) nlM [] rfl x nx (DX x) rfl HOX.out _ _ rfl (klS hsl) (.map (some y)) HAT.out ?_) | (refine wpList_lookup_tok _ rfl _ _ 337 rfl 3 55 keyI Tryz.underlying337 slE (fun _ _ _ h=>slE_held h) (zero55 _) nlS [] rfl y ny (DY y) rfl HOYa.out _ _ rfl (klI hid) _ HV.out ?_)) | go_in)
      go_quiet (fail)
      have hwB:=below_drewN (Below.refl (wr.alloc (.cells #[.string s,.int .i64 (p:Int),.int .i64 (fr:Int),.int .i64 (tq:Int)] 27)).heap.size (wr.alloc (.cells #[.string s,.int .i64 (p:Int),.int .i64 (fr:Int),.int .i64 (tq:Int)] 27))) nq
      have hwt:((wr.alloc (.cells #[.string s,.int .i64 (p:Int),.int .i64 (fr:Int),.int .i64 (tq:Int)] 27)).drewN nq).cell? ⟨wr.heap.size,1,none⟩=some (.int .i64 (p:Int)):=by go_simp
      have hxb:=HXB.out _ hwB
      obtain ⟨wb,hwb⟩:∃ wb,(wr.alloc (.cells #[.string s,.int .i64 (p:Int),.int .i64 (fr:Int),.int .i64 (tq:Int)] 27)).drewN nq=wb:=⟨_,rfl⟩
      rw [hwb] at hwB hxb hwt ⊢
      clear hwb
      go_wp2_with fail
      exact ⟨⟨j+1,Y',by go_num,by omega,HSK.out wb hwB⟩,by simp [intOf];omega⟩
  ·have hjI:¬ (j:Int)<(ts.length:Int):=by omega
   obtain rfl:j=ts.length:=by omega
   go_wp2_with fail
   go_end0
   exact ⟨rfl,Y',hO⟩
end Go.Proofs.YtcmgclckknpecaaGreatDoor
namespace Go.Proofs.YtcmgclckknpecaaGreatDoor
namespace Pl
theorem enc_code (f:Nat→Nat) (n:Nat) (hb:∀ j,f j<256) (h:code f n≠65533):Lib.encodeRune ((code f n:Nat):Int)=(List.range (size f n)).map fun j=>(f j).toUInt8:=by
 have hs:size f n=lenOf (f 0):=by
  rcases Nat.decEq (size f n) (lenOf (f 0)) with h' | h'
  ·exact absurd (code_no h') h
  ·exact h'
 have hc:=code_yes hs
 have hz:sz f n 3 1=lenOf (f 0):=hs
 have e2:codeTo f 2=codeTo f 1*64+f 1 % 64:=codeTo_succ f (k:=1) (by omega)
 have e3:codeTo f 3=codeTo f 2*64+f 2 % 64:=codeTo_succ f (k:=2) (by omega)
 have e4:codeTo f 4=codeTo f 3*64+f 3 % 64:=codeTo_succ f (k:=3) (by omega)
 have e1:=codeTo_one f
 have b0:=hb 0
 have b1:=hb 1
 have b2:=hb 2
 have b3:=hb 3
 have hL4:=lenOf_le (f 0)
 have h1:=size_ge f n
 have hg:∀ k,1≤k→k<lenOf (f 0)→good (f 0) k (f k)=true:=by
  intro k hk1 hk2
  rcases Bool.eq_false_or_eq_true (good (f 0) k (f k)) with hh | hh
  ·exact hh
  ·exfalso
   have stop:∀ m j,j≤k→k<j+m+1→sz f n m j≤k:=by
    intro m
    induction m with
    | zero=>intro j hj hk;simp only [sz];exact hj
    | succ m ih =>
     intro j hj hk
     rw [sz]
     split
     ·rename_i hcond
      rcases Nat.eq_or_lt_of_le hj with rfl | hlt
      ·rw [hh] at hcond;simp at hcond
      ·exact ih (j+1) (by omega) (by omega)
     ·exact hj
   have:=stop 3 1 hk1 (by omega)
   omega
 rw [hs,hc,Lib.encodeRune]
 have hL:lenOf (f 0)=1∨lenOf (f 0)=2∨lenOf (f 0)=3∨lenOf (f 0)=4:=by omega
 rcases hL with hL | hL | hL | hL
 ·have hcd:cd0 (f 0)=f 0:=by simp [cd0,hL]
  have h128:f 0<128:=by unfold lenOf at hL;(repeat' split at hL) <;> omega
  rw [hL,e1,hcd,Lib.encodeRuneZ_one (by omega) (by omega)]
  simp [List.range_succ]
 ·have hcd:cd0 (f 0)=f 0 % 32:=by simp [cd0,hL]
  have hr:194≤f 0∧f 0<224:=by unfold lenOf at hL;(repeat' split at hL) <;> omega
  have g1:=(good_one (f 0) (f 1)).1 (hg 1 (by omega) (by omega))
  have hlo:loOf (f 0)=128:=by unfold loOf;rw [if_neg (by omega),if_neg (by omega)]
  have hhi:hiOf (f 0)=191:=by unfold hiOf;rw [if_neg (by omega),if_neg (by omega)]
  rw [hL,e2,e1,hcd,Lib.encodeRuneZ_two (by omega) (by omega)]
  have k0:((192:Int)+((f 0 % 32*64+f 1 % 64:Nat):Int) / 64).toNat=f 0:=by omega
  have k1:((128:Int)+((f 0 % 32*64+f 1 % 64:Nat):Int) % 64).toNat=f 1:=by omega
  simp only [List.map_cons,List.map_nil,k0,k1]
  simp [List.range_succ]
 ·have hcd:cd0 (f 0)=f 0 % 16:=by simp [cd0,hL]
  have hr:224≤f 0∧f 0<240:=by unfold lenOf at hL;(repeat' split at hL) <;> omega
  have g1:=(good_one (f 0) (f 1)).1 (hg 1 (by omega) (by omega))
  have g2:=(good_more (f 0) (f 2) (k:=2) (by omega)).1 (hg 2 (by omega) (by omega))
  have hlo:128≤loOf (f 0)∧(f 0=224→loOf (f 0)=160):=by unfold loOf;constructor <;> (repeat' split) <;> omega
  have hhi:hiOf (f 0)≤191∧(f 0=237→hiOf (f 0)=159):=by unfold hiOf;constructor <;> (repeat' split) <;> omega
  obtain ⟨c,hcc⟩:∃ c,c=(f 0 % 16*64+f 1 % 64)*64+f 2 % 64:=⟨_,rfl⟩
  have hc3:(2048≤(c:Int)∧(c:Int)<55296)∨(57343<(c:Int)∧(c:Int)≤65535):=by
   by_cases h224:f 0=224
   ·have:=hlo.2 h224;left;omega
   ·by_cases h237:f 0=237
    ·have:=hhi.2 h237;left;omega
    ·by_cases h':f 0<237
     ·left;omega
     ·right;omega
  rw [hL,e3,e2,e1,hcd,← hcc,Lib.encodeRuneZ_three hc3]
  have k0:((224:Int)+(c:Int) / 4096).toNat=f 0:=by omega
  have k1:((128:Int)+(c:Int) / 64 % 64).toNat=f 1:=by omega
  have k2:((128:Int)+(c:Int) % 64).toNat=f 2:=by omega
  simp only [List.map_cons,List.map_nil,k0,k1,k2]
  simp [List.range_succ]
 ·have hcd:cd0 (f 0)=f 0 % 8:=by simp [cd0,hL]
  have hr:240≤f 0∧f 0<245:=by unfold lenOf at hL;(repeat' split at hL) <;> omega
  have g1:=(good_one (f 0) (f 1)).1 (hg 1 (by omega) (by omega))
  have g2:=(good_more (f 0) (f 2) (k:=2) (by omega)).1 (hg 2 (by omega) (by omega))
  have g3:=(good_more (f 0) (f 3) (k:=3) (by omega)).1 (hg 3 (by omega) (by omega))
  have hlo:128≤loOf (f 0)∧(f 0=240→loOf (f 0)=144):=by unfold loOf;constructor <;> (repeat' split) <;> omega
  have hhi:hiOf (f 0)≤191∧(f 0=244→hiOf (f 0)=143):=by unfold hiOf;constructor <;> (repeat' split) <;> omega
  obtain ⟨c,hcc⟩:∃ c,c=((f 0 % 8*64+f 1 % 64)*64+f 2 % 64)*64+f 3 % 64:=⟨_,rfl⟩
  have hc3:(65536:Int)≤(c:Int)∧(c:Int)≤1114111:=by
   by_cases h240:f 0=240
   ·have:=hlo.2 h240;omega
   ·by_cases h244:f 0=244
    ·have:=hhi.2 h244;omega
    ·omega
  rw [hL,e4,e3,e2,e1,hcd,← hcc,Lib.encodeRuneZ_four hc3.1 hc3.2]
  have k0:((240:Int)+(c:Int) / 262144).toNat=f 0:=by omega
  have k1:((128:Int)+(c:Int) / 4096 % 64).toNat=f 1:=by omega
  have k2:((128:Int)+(c:Int) / 64 % 64).toNat=f 2:=by omega
  have k3:((128:Int)+(c:Int) % 64).toNat=f 3:=by omega
  simp only [List.map_cons,List.map_nil,k0,k1,k2,k3]
  simp [List.range_succ]
end Pl
end Go.Proofs.YtcmgclckknpecaaGreatDoor
