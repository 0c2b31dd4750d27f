import Derived.Test.YtcmgclckknpecaaGreatDoorKba
import Derived.Test.YtcmgclckknpecaaGreatDoorKat
namespace Go.Proofs.YtcmgclckknpecaaGreatDoor
open Go.RowKit Go.Shelf
structure Exb where
 p:Nat→Prop
def Kpt [Inhabited Exb] (k:Nat) (o:Obj):Prop:=k=0∨∃ c t fz,o=.cells c t fz∧((t=9∧¬ (default:Exb).p k)∨t=96∨t=357∨t=372)
structure Agr [Inhabited Exb] (w W:World):Prop where
 size:w.heap.size≤W.heap.size
 block:∀ k o,w.heap[k]?=some o→Kpt k o→W.heap[k]?=some o
theorem Agr.trans [Inhabited Exb] {A B C:World} (h:Agr A B) (k:Agr B C):Agr A C:=⟨Nat.le_trans h.size k.size,fun i o ho hk=>k.block i o (h.block i o ho hk) hk⟩
theorem Agr.refl [Inhabited Exb] (A:World):Agr A A:=⟨Nat.le_refl _,fun _ _ h _=>h⟩
theorem Agr.below [Inhabited Exb] {A B:World} (h:Below A.heap.size A B):Agr A B:=⟨h.size,fun k _ ho _=>(h.block k (Array.getElem?_eq_some_iff.1 ho).1).trans ho⟩
theorem Agr.of_grown [Inhabited Exb] {A B:World} {row:Option Nat} (hg:A.grownBy B row) (hr:∀ r o,row=some r→A.heap[r]?=some o→¬ Kpt r o):Agr A B :=
 ⟨hg.size,fun k o ho hk=>(hg.block k (Array.getElem?_eq_some_iff.1 ho).1 (fun e=>hr k o e.symm ho hk)).trans ho⟩
theorem ownsRow_agr [Inhabited Exb] {w W:World} (ha:Agr w W) {base:Nat} {e:TypeId} {size:Nat} {v:Value} {n:Nat} {xs:List Value} (h:w.ownsRow base e size v n xs) (he:(e=9∧∀ g,v.ownBlock=some g→¬ (default:Exb).p g)∨e=357):W.ownsRow base e size v n xs:=by
 refine ⟨h.1,?_⟩
 rcases h.2 with h | ⟨g,cap,cur,rfl,hg,hh,r⟩
 ·exact .inl h
 ·refine .inr ⟨g,cap,cur,rfl,hg,ha.block g _ hh (.inr ⟨_,_,_,rfl,?_⟩),r⟩
  rcases he with h | h
  ·exact .inl ⟨h.1,h.2 g (by simp [Value.ownBlock])⟩
  ·exact .inr (.inr (.inl h))
theorem Blk.agr [Inhabited Exb] {w W:World} (ha:Agr w W) {b:Nat} {cs:Array Value} (h:Blk b 96 cs w):Blk b 96 cs W:=ha.block b _ h (.inr ⟨_,_,_,rfl,.inr (.inl rfl)⟩)
theorem Ends.agr [Inhabited Exb] {w W:World} (ha:Agr w W) (h:Ends w):Ends W:=by
 obtain ⟨t,fr,h⟩:=h
 exact ⟨t,fr,ha.block 0 _ h (.inl rfl)⟩
structure StE [Inhabited Exb] (base:Nat) (sp:Sp) (v1 v2:Value) (x z:Int) (w:World):Prop where
 r1:w.ownsRow base 9 1 v1 sp.ws.length (sp.ws.map .string)
 r2:w.ownsRow base 357 2 v2 sp.ps.length (sp.ps.flatMap penc)
 hx:x=(sp.lo:Int)
 hz:z=(sp.hi:Int)
 ex:∀ g,v1.ownBlock=some g→¬ (default:Exb).p g
theorem StE.agr [Inhabited Exb] {base:Nat} {sp:Sp} {v1 v2:Value} {x z:Int} {A B:World} (h:StE base sp v1 v2 x z A) (ha:Agr A B):StE base sp v1 v2 x z B :=
 ⟨ownsRow_agr ha h.r1 (.inl ⟨rfl,h.ex⟩),ownsRow_agr ha h.r2 (.inr rfl),h.hx,h.hz,h.ex⟩
theorem StE.o [Inhabited Exb] {base:Nat} {sp:Sp} {v1 v2:Value} {x z:Int} {A:World} (h:StE base sp v1 v2 x z A):StO base sp v1 v2 x z A:=⟨h.r1,h.r2,h.hx,h.hz⟩
theorem StE.of [Inhabited Exb] {base:Nat} {sp:Sp} {v1 v2:Value} {x z:Int} {A:World} (h:StO base sp v1 v2 x z A) (he:∀ g,v1.ownBlock=some g→¬ (default:Exb).p g):StE base sp v1 v2 x z A:=⟨h.r1,h.r2,h.hx,h.hz,he⟩
theorem StE.stb [Inhabited Exb] {base:Nat} {sp:Sp} {v1 v2:Value} {x z:Int} {A B:World} (h:StE base sp v1 v2 x z A) (hs:Stb base A B):StE base sp v1 v2 x z B:=.of (h.o.stb hs) h.ex
structure StsE [Inhabited Exb] (base:Nat) (es:List Sp) (xs:List Value) (w:World):Prop where
 ex:∃ L:List Sq,es=L.map (·.1)∧xs=L.flatMap senc∧∀ q∈L,StE base q.1 q.2.1 q.2.2.1 q.2.2.2.1 q.2.2.2.2 w
structure SpW (sp:Sp):Prop where
 wl:sp.ws.length≤1000
 pl:sp.ps.length≤1000
 pa:∀ p∈sp.ps,Asc p.1∧(∀ x∈p.2.data.toList,x.toNat<128)∧1≤p.1.size∧1≤p.2.size∧p.2.size≤8
 hb:sp.hi≤9
def Pl.laK (i:Nat) (sp:Sp) (cs:List Nat):List (List Nat) :=
 if i=0 then [cs.map Pl.sml] else if i=1 then [Pl.dc (Pl.stm (Pl.en cs))] else if i=2 then (if Lib.containsS sp.ws (Pl.en cs)=true then [] else [cs])
 else if i=3 then cs :: (Pl.syF (Pl.en cs) sp.ps).map Pl.bc else if i=4 then (if sp.lo≤cs.length∧cs.length≤sp.hi then [cs] else []) else if i=5 then Pl.grm sp.lo sp.hi cs else Pl.edg sp.lo sp.hi cs
structure LOk [Inhabited Exb] (f:Value) (i:Nat) (sp:Sp) (w:World):Prop where
 ex:∃ F lb,f=.func (.func F) #[] lb∧(∀ args w,(callFunc F args).run Tryz.prog w=.ok (.enter F args) w)∧∀ W,Agr w W→∀ cs:List Nat,(∀ c∈cs,Pl.okc c)→(Pl.en cs).size≤1099511627776 →
  CallsIn Fence.wide 7 Tryz.prog F (#[.string (Pl.en cs)]++lb) W fun e W'=>∃ gf lb',e=.returned (.func (.func gf) #[] lb')∧Below W.heap.size W W'∧(∀ args w,(callFunc gf args).run Tryz.prog w=.ok (.enter gf args) w) ∧
   ∀ B,w.heap.size≤B→B<W.heap.size→SeqStopsO Fence.wide 7 Tryz.prog gf lb' encs1 (KeepO B 27) (fun ys=>ys=(Pl.laK i sp cs).map Pl.en) (fun pre=>pre <+: (Pl.laK i sp cs).map Pl.en) 10995116277760 W'
theorem LOk.agr [Inhabited Exb] {f:Value} {i:Nat} {sp:Sp} {w w2:World} (h:LOk f i sp w) (ha:Agr w w2):LOk f i sp w2:=by
 obtain ⟨F,lb,h1,h2,h3⟩:=h.ex
 refine ⟨F,lb,h1,h2,fun W hW cs hc hs=>(h3 W (ha.trans hW) cs hc hs).mono ?_⟩
 rintro e W' ⟨gf,lb',a1,a2,a3,a4⟩
 exact ⟨gf,lb',a1,a2,a3,fun B hB hB2=>a4 B (Nat.le_trans ha.size hB) hB2⟩
theorem only_seq {W':World} {b:Nat} {st:Bool} {x:ByteArray} (h1:Boxed W' b 4 (.bool st)) (h2:Boxed W' (b+1) 9 (.string x)) (B:Nat) (l:List ByteArray) (hl:l=if st=true then [x] else []) :
  SeqStopsO Fence.wide 7 Tryz.prog 306 #[.pointer (some ⟨b,0,none⟩),.pointer (some ⟨b+1,0,none⟩)] encs1 (KeepO B 27) (fun ys=>ys=l) (fun pre=>pre <+: l) 10995116277760 W':=by
 subst hl
 exact SeqStopsO.of_K (onlyIf1_stops 7 (by omega) 10995116277760 (by omega) b (b+1) B st x W' h1.lt h2.lt h1.cell h2.cell) (fun m A B h=>h.keepE)
theorem lok_low [Inhabited Exb] (sp:Sp) (w:World):LOk (.func (.func 203) #[] #[]) 0 sp w:=by
 refine ⟨203,#[],rfl,enters_of Tryz.func203 (by kernel_rfl) rfl,fun W hW cs hc hs=>?_⟩
 refine (callsIn_wide.2 (low_any (Pl.en cs) W hs)).mono ?_
 rintro e W' ⟨b,rfl,h1,h2,_,hB⟩
 refine ⟨306,_,rfl,hB,enters_of Tryz.func306 (by kernel_rfl) rfl,fun B _ _=>only_seq h1 h2 B _ ?_⟩
 rw [Pl.smlS_en cs hc]
 rfl
theorem lok_stop [Inhabited Exb] (sp:Sp) (hw:SpW sp) (b base:Nat) (v1 v2:Value) (x z:Int) (nm:ByteArray) (w:World) (hb:Blk b 96 #[.string nm,v1,v2,.int .i64 x,.int .i64 z] w) (hO:StE base sp v1 v2 x z w) :
  LOk (.func (.func 208) #[] #[.pointer (some ⟨b,0,none⟩)]) 2 sp w:=by
 refine ⟨208,#[.pointer (some ⟨b,0,none⟩)],rfl,enters_of Tryz.func208 (by kernel_rfl) rfl,fun W hW cs hc hs=>?_⟩
 obtain ⟨a,cap,rfl,_,hp⟩:=row_form ((hO.agr hW).r1)
 have c1:=(hb.agr hW).five.2.1
 have key:∃ g,(0<sp.ws.length→a=some ⟨g,0,none⟩)∧∀ j (h:j<sp.ws.length),W.cell? ⟨g,j,none⟩=some (.string sp.ws[j]):=by
  by_cases h0:0<sp.ws.length
  ·obtain ⟨g,rfl,_,_,_,hc⟩:=hp h0
   exact ⟨g,fun _=>rfl,fun j hj=>hc j _ (by simp [hj])⟩
  ·exact ⟨0,fun h=>absurd h h0,fun j hj=>by omega⟩
 obtain ⟨g,hg,hcell⟩:=key
 refine (callsIn_wide.2 (stopV_any (Pl.en cs) b g sp.ws.length cap a sp.ws W c1 rfl hw.wl hg hcell)).mono ?_
 rintro e W' ⟨b',rfl,h1,h2,_,hB⟩
 refine ⟨306,_,rfl,hB,enters_of Tryz.func306 (by kernel_rfl) rfl,fun B _ _=>only_seq h1 h2 B _ ?_⟩
 simp only [Pl.laK]
 cases Lib.containsS sp.ws (Pl.en cs) <;> simp
theorem lok_len [Inhabited Exb] (sp:Sp) (b base:Nat) (v1 v2:Value) (x z:Int) (nm:ByteArray) (w:World) (hb:Blk b 96 #[.string nm,v1,v2,.int .i64 x,.int .i64 z] w) (hO:StE base sp v1 v2 x z w) :
  LOk (.func (.func 213) #[] #[.pointer (some ⟨b,0,none⟩)]) 4 sp w:=by
 refine ⟨213,#[.pointer (some ⟨b,0,none⟩)],rfl,enters_of Tryz.func213 (by kernel_rfl) rfl,fun W hW cs hc hs=>?_⟩
 have hb':=hb.agr hW
 have c3:=hb'.five.2.2.2.1
 have c4:=hb'.five.2.2.2.2.1
 rw [hO.hx] at c3
 rw [hO.hz] at c4
 refine (callsIn_wide.2 (lenV_any (Pl.en cs) b sp.lo sp.hi cs.length W (Pl.runeCount_en cs hc) hs c3 c4 hb'.lt)).mono ?_
 rintro e W' ⟨b',rfl,h1,h2,_,hB⟩
 refine ⟨306,_,rfl,hB,enters_of Tryz.func306 (by kernel_rfl) rfl,fun B _ _=>only_seq h1 h2 B _ ?_⟩
 simp only [Pl.laK]
 by_cases h:sp.lo≤cs.length∧cs.length≤sp.hi
 ·simp [h]
 ·simp [h]
theorem three_boxes (w:World) (x:ByteArray) (lo hi:Int):Boxed (((w.alloc (.cells #[.string x] 9)).alloc (.cells #[.int .i64 lo] 3)).alloc (.cells #[.int .i64 hi] 3)) w.heap.size 9 (.string x)∧Boxed (((w.alloc (.cells #[.string x] 9)).alloc (.cells #[.int .i64 lo] 3)).alloc (.cells #[.int .i64 hi] 3)) (w.heap.size+1) 3 (.int .i64 lo)∧Boxed (((w.alloc (.cells #[.string x] 9)).alloc (.cells #[.int .i64 lo] 3)).alloc (.cells #[.int .i64 hi] 3)) (w.heap.size+1+1) 3 (.int .i64 hi)∧Below w.heap.size w (((w.alloc (.cells #[.string x] 9)).alloc (.cells #[.int .i64 lo] 3)).alloc (.cells #[.int .i64 hi] 3)):=by
 have h1:=Boxed.new w 9 (.string x)
 have h2:=Boxed.new (w.alloc (.cells #[.string x] 9)) 3 (.int .i64 lo)
 have h3:=Boxed.new ((w.alloc (.cells #[.string x] 9)).alloc (.cells #[.int .i64 lo] 3)) 3 (.int .i64 hi)
 exact ⟨(h1.alloc _).alloc _,(by simpa using h2:Boxed _ (w.heap.size+1) 3 (.int .i64 lo)).alloc _,by simpa using h3,(((Below.refl _ w).alloc (Nat.le_refl _) _).alloc (by simp) _).alloc (by simp;omega) _⟩
theorem lok_gram [Inhabited Exb] (sp:Sp) (hw:SpW sp) (b base:Nat) (v1 v2:Value) (x z:Int) (nm:ByteArray) (w:World) (hb:Blk b 96 #[.string nm,v1,v2,.int .i64 x,.int .i64 z] w) (hO:StE base sp v1 v2 x z w) :
  LOk (.func (.func 215) #[] #[.pointer (some ⟨b,0,none⟩)]) 5 sp w:=by
 refine ⟨215,#[.pointer (some ⟨b,0,none⟩)],rfl,enters_of Tryz.func215 (by kernel_rfl) rfl,fun W hW cs hc hs=>?_⟩
 have hb':=hb.agr hW
 have c3:=hb'.five.2.2.2.1
 have c4:=hb'.five.2.2.2.2.1
 rw [hO.hx] at c3
 rw [hO.hz] at c4
 refine (callsIn_wide.2 (gramV_any (Pl.en cs) b sp.lo sp.hi W c3 c4)).mono ?_
 rintro e W' ⟨rfl,rfl⟩
 obtain ⟨h1,h2,h3,hB⟩:=three_boxes W (Pl.en cs) (sp.lo:Int) (sp.hi:Int)
 refine ⟨309,_,rfl,hB,enters_of Tryz.func309 (by kernel_rfl) rfl,fun B _ hB2=>?_⟩
 exact grams1_stops 7 (by omega) W.heap.size (W.heap.size+1) (W.heap.size+1+1) B cs hc sp.lo sp.hi hw.hb (Pl.en cs) (show Hid _ from rfl) hs 10995116277760 (Nat.le_refl _) _ h1 h2 h3 (by omega) (by omega) (by omega) (by have:=hB.size;omega)
theorem lok_edge [Inhabited Exb] (sp:Sp) (hw:SpW sp) (b base:Nat) (v1 v2:Value) (x z:Int) (nm:ByteArray) (w:World) (hb:Blk b 96 #[.string nm,v1,v2,.int .i64 x,.int .i64 z] w) (hO:StE base sp v1 v2 x z w) :
  LOk (.func (.func 217) #[] #[.pointer (some ⟨b,0,none⟩)]) 6 sp w:=by
 refine ⟨217,#[.pointer (some ⟨b,0,none⟩)],rfl,enters_of Tryz.func217 (by kernel_rfl) rfl,fun W hW cs hc hs=>?_⟩
 have hb':=hb.agr hW
 have c3:=hb'.five.2.2.2.1
 have c4:=hb'.five.2.2.2.2.1
 rw [hO.hx] at c3
 rw [hO.hz] at c4
 refine (callsIn_wide.2 (edgeV_any (Pl.en cs) b sp.lo sp.hi W c3 c4)).mono ?_
 rintro e W' ⟨rfl,rfl⟩
 obtain ⟨h1,h2,h3,hB⟩:=three_boxes W (Pl.en cs) (sp.lo:Int) (sp.hi:Int)
 refine ⟨310,_,rfl,hB,enters_of Tryz.func310 (by kernel_rfl) rfl,fun B _ hB2=>?_⟩
 exact SeqStopsO.of_K (edges1_stops 7 (by omega) W.heap.size (W.heap.size+1+1) (W.heap.size+1) B cs hc sp.lo sp.hi hw.hb (Pl.en cs) (show Hid _ from rfl) hs 10995116277760 (by omega) _ h1 h3 h2 (by omega) (by omega) (by omega) (by have:=hB.size;omega)) (fun m A B h=>h.keepE)
end Go.Proofs.YtcmgclckknpecaaGreatDoor
namespace Go.Proofs.YtcmgclckknpecaaGreatDoor
open Go.RowKit Go.Shelf
theorem ba_size (l:List UInt8):(⟨l.toArray⟩:ByteArray).size=l.length:=by
 show l.toArray.size=_
 simp
theorem Pl.ok_low {c:Nat} (h:c<128):Pl.okc c:=by unfold Pl.okc;omega
theorem Pl.bc_ok (b:ByteArray) (h:∀ x∈b.data.toList,x.toNat<128):∀ c∈Pl.bc b,Pl.okc c:=fun c hc=>by
 obtain ⟨x,hx,rfl⟩:=List.mem_map.1 hc
 exact Pl.ok_low (h x hx)
theorem Pl.stF_ascii (s:ByteArray) (hs:∀ x∈s.data.toList,x.toNat<128):∀ l:List (ByteArray × Nat × ByteArray),(∀ e∈l,(∀ x∈e.2.2.data.toList,x.toNat<128)∧1≤e.2.1∧e.2.2.size≤8) →
  (∀ x∈(Pl.stF s l).data.toList,x.toNat<128)∧(1≤s.size→1≤(Pl.stF s l).size)∧(Pl.stF s l).size≤s.size+8
 | [],_=>⟨hs,fun h=>h,by simp [Pl.stF]⟩
 | e :: r,h=>by
  have ih:=Pl.stF_ascii s hs r (fun e' he'=>h e' (by simp [he']))
  obtain ⟨he1,he2,he3⟩:=h e (by simp)
  rw [Pl.stF]
  split
  ·rename_i hc
   have ht:=trim_le s.data.toList e.1.data.toList
   have hsz:(⟨(Lib.trimSuffix s.data.toList e.1.data.toList).toArray⟩++e.2.2:ByteArray).size=(Lib.trimSuffix s.data.toList e.1.data.toList).length+e.2.2.size:=by
    rw [ByteArray.size_append,ba_size]
   refine ⟨fun x hx=>?_,fun _=>?_,?_⟩
   ·have hx':x∈Lib.trimSuffix s.data.toList e.1.data.toList∨x∈e.2.2.data.toList:=by simpa [ByteArray.data_append] using hx
    rcases hx' with hx' | hx'
    ·refine hs x ?_
     unfold Lib.trimSuffix at hx'
     split at hx'
     ·exact List.mem_of_mem_take hx'
     ·exact hx'
    ·exact he1 x hx'
   ·rw [hsz];omega
   ·rw [hsz]
    have:s.data.toList.length=s.size:=by
     show s.data.toList.length=s.data.size
     simp
    omega
  ·exact ih
theorem Pl.ends9_ok:∀ e∈Pl.ends9,(∀ x∈e.2.2.data.toList,x.toNat<128)∧1≤e.2.1∧e.2.2.size≤8:=by
 unfold Pl.ends9
 intro e he
 simp only [List.mem_cons,List.not_mem_nil,or_false] at he
 rcases he with rfl | rfl | rfl | rfl | rfl | rfl | rfl | rfl | rfl <;> exact ⟨by simp,by decide,by decide⟩
theorem Pl.stm_ok (cs:List Nat) (hc:∀ c∈cs,Pl.okc c):∃ ds,(∀ c∈ds,Pl.okc c)∧Pl.stm (Pl.en cs)=Pl.en ds∧(cs≠[]→ds≠[])∧ds.length≤cs.length+8:=by
 unfold Pl.stm
 rw [Pl.plF_all cs hc]
 split
 ·rename_i hp
  have hb:(Pl.en cs).data.toList=cs.map Nat.toUInt8:=by simp [Pl.en,Pl.eb_plain cs hp]
  have ha:∀ x∈(Pl.en cs).data.toList,x.toNat<128:=by
   rw [hb]
   intro x hx
   obtain ⟨c,hcm,rfl⟩:=List.mem_map.1 hx
   have h2:=List.all_eq_true.1 hp c hcm
   have h3:97≤c∧c≤122:=by simpa [Pl.wit] using h2
   rw [u8nat c (by omega)]
   omega
  obtain ⟨h1,h2,h3⟩:=Pl.stF_ascii (Pl.en cs) ha Pl.ends9 Pl.ends9_ok
  refine ⟨Pl.bc (Pl.stF (Pl.en cs) Pl.ends9),Pl.bc_ok _ h1,(Pl.en_bc _ h1).symm,fun hne e=>?_,?_⟩
  rotate_left
  ·have h8:(Pl.bc (Pl.stF (Pl.en cs) Pl.ends9)).length=(Pl.stF (Pl.en cs) Pl.ends9).size:=by simp [Pl.bc]
   have h9:(Pl.en cs).size=cs.length:=by rw [Pl.en_size,Pl.eb_plain cs hp];simp
   omega
  have h4:1≤(Pl.en cs).size:=by
   rw [Pl.en_size]
   have:=(Pl.eb_le cs).1
   have:1≤cs.length:=List.length_pos_iff.2 hne
   omega
  have h5:=h2 h4
  have h6:=congrArg List.length e
  simp [Pl.bc] at h6
  have h7:(Pl.stF (Pl.en cs) Pl.ends9).size=(Pl.stF (Pl.en cs) Pl.ends9).data.size:=rfl
  rw [h7,h6] at h5
  simp at h5
 ·exact ⟨cs,hc,rfl,fun h=>h,by omega⟩
theorem lok_stem [Inhabited Exb] (sp:Sp) (w:World) (hE:Ends w):LOk (.func (.func 206) #[] #[]) 1 sp w:=by
 refine ⟨206,#[],rfl,enters_of Tryz.func206 (by kernel_rfl) rfl,fun W hW cs hc hs=>?_⟩
 refine (callsIn_wide.2 (stemV_any (Pl.en cs) W hs (hE.agr hW))).mono ?_
 rintro e W' ⟨b,rfl,h1,h2,_,hB⟩
 refine ⟨306,_,rfl,hB,enters_of Tryz.func306 (by kernel_rfl) rfl,fun B _ _=>only_seq h1 h2 B _ ?_⟩
 obtain ⟨ds,hd,he,_,_⟩:=Pl.stm_ok cs hc
 simp only [Pl.laK,he]
 simp [Pl.dc_en ds hd]
theorem penc_getElem:∀ (ps:List (ByteArray × ByteArray)) (i:Nat) (h:i<ps.length),(ps.flatMap penc)[i*2]?=some (.string (ps[i]).1)∧(ps.flatMap penc)[i*2+1]?=some (.string (ps[i]).2)
 | x :: r,0,_=>by simp [penc]
 | x :: r,i+1,h=>by
  have ih:=penc_getElem r i (by simpa using h)
  have e:∀ j,((x :: r).flatMap penc)[(i+1)*2+j]?=(r.flatMap penc)[i*2+j]?:=fun j=>by
   rw [List.flatMap_cons,List.getElem?_append_right (by simp [penc];omega)]
   congr 1
   simp [penc];omega
  exact ⟨(e 0).trans ih.1,(e 1).trans ih.2⟩
theorem pbk_form {w:World} {base:Nat} {v:Value} {ps:List (ByteArray × ByteArray)} (h:w.ownsRow base 357 2 v ps.length (ps.flatMap penc)) :
  ∃ a cap g,v=.slice a ps.length cap∧(0<ps.length→a=some ⟨g,0,none⟩)∧(0<ps.length→v.ownBlock=some g)∧(0<ps.length→g<w.heap.size)∧Pbk g ps w:=by
 rcases h.2 with ⟨rfl,h0⟩ | ⟨g,cap,cur,rfl,hb,hg,hcap,hmax,hcs,htake⟩
 ·exact ⟨none,0,0,by rw [h0],fun hp=>by omega,fun hp=>by omega,fun hp=>by omega,⟨⟨fun i hi=>by omega⟩,fun hp=>by omega⟩⟩
 ·refine ⟨_,cap,g,rfl,fun _=>rfl,fun _=>rfl,fun _=>(Array.getElem?_eq_some_iff.1 hg).1,⟨⟨fun i hi=>?_⟩,fun _=>⟨_,_,hg⟩⟩⟩
  obtain ⟨e0,e1⟩:=penc_getElem ps i hi
  have hc:∀ j u,(ps.flatMap penc)[j]?=some u→w.cell? ⟨g,j,none⟩=some u:=fun j u hu=>by
   rw [← htake,List.getElem?_take] at hu
   split at hu
   ·simp [World.cell?,hg];simpa using hu
   ·cases hu
  exact ⟨hc _ _ e0,hc _ _ e1⟩
theorem Pl.syF_mem (t:ByteArray):∀ (ps:List (ByteArray × ByteArray)) (y:ByteArray),y∈Pl.syF t ps→∃ p∈ps,y=p.2
 | [],y,h=>by simp [Pl.syF] at h
 | p :: r,y,h=>by
  rw [Pl.syF] at h
  split at h
  ·rcases List.mem_cons.1 h with rfl | h
   ·exact ⟨p,by simp,rfl⟩
   ·obtain ⟨q,hq,e⟩:=Pl.syF_mem t r y h
    exact ⟨q,by simp [hq],e⟩
  ·obtain ⟨q,hq,e⟩:=Pl.syF_mem t r y h
   exact ⟨q,by simp [hq],e⟩
theorem map_en_bc (l:List ByteArray) (h:∀ y∈l,∀ x∈y.data.toList,x.toNat<128):(l.map Pl.bc).map Pl.en=l:=by
 induction l with
 | nil=>rfl
 | cons y r ih=>rw [List.map_cons,List.map_cons,Pl.en_bc y (h y (by simp)),ih (fun z hz=>h z (by simp [hz]))]
theorem lok_syn [Inhabited Exb] (sp:Sp) (hw:SpW sp) (b base:Nat) (v1 v2:Value) (x z:Int) (nm:ByteArray) (w:World) (hb:Blk b 96 #[.string nm,v1,v2,.int .i64 x,.int .i64 z] w) (hO:StE base sp v1 v2 x z w) :
  LOk (.func (.func 211) #[] #[.pointer (some ⟨b,0,none⟩)]) 3 sp w:=by
 refine ⟨211,#[.pointer (some ⟨b,0,none⟩)],rfl,enters_of Tryz.func211 (by kernel_rfl) rfl,fun W hW cs hc hs=>?_⟩
 have hlow:∀ g,v2.ownBlock=some g→g<w.heap.size:=fun g hg=>(ownBlock_lt hO.r2 hg).1
 obtain ⟨a,cap,g,rfl,ha,hob,hg,hP⟩:=pbk_form ((hO.agr hW).r2)
 have c2:=(hb.agr hW).five.2.2.1
 refine (callsIn_wide.2 (synV_any (Pl.en cs) b a sp.ps.length cap W c2)).mono ?_
 rintro e W' ⟨rfl,rfl⟩
 have h1:=Boxed.new W 9 (.string (Pl.en cs))
 have h2:=Boxed.new (W.alloc (.cells #[.string (Pl.en cs)] 9)) 94 (.slice a sp.ps.length cap)
 rw [World.size_alloc] at h2
 have hB:Below W.heap.size W ((W.alloc (.cells #[.string (Pl.en cs)] 9)).alloc (.cells #[.slice a sp.ps.length cap] 94)):=((Below.refl _ W).alloc (Nat.le_refl _) _).alloc (by simp) _
 refine ⟨308,_,rfl,hB,enters_of Tryz.func308 (by kernel_rfl) rfl,fun B hB1 hB2=>?_⟩
 have hl:(Pl.laK 3 sp cs).map Pl.en=Pl.en cs :: Pl.syF (Pl.en cs) sp.ps:=by
  rw [show Pl.laK 3 sp cs=cs :: (Pl.syF (Pl.en cs) sp.ps).map Pl.bc from rfl,List.map_cons,map_en_bc _ (fun y hy=>by
   obtain ⟨p,hp,rfl⟩:=Pl.syF_mem _ _ _ hy
   exact (hw.pa p hp).2.1)]
 rw [hl]
 exact SeqStopsO.of_K (withLike1_stops 7 (by omega) W.heap.size (W.heap.size+1) B g cap a (Pl.en cs) sp.ps hw.pl 10995116277760 (by have:=hw.pl;omega) _ (h1.alloc _) h2 ha ((hP.alloc _).alloc _) (by omega) (by omega) (fun hp=>by have:=hlow g (hob hp);omega)) (fun m A B h=>h.keepE)
end Go.Proofs.YtcmgclckknpecaaGreatDoor
namespace Go.Proofs.YtcmgclckknpecaaGreatDoor
open Go.RowKit
set_option maxRecDepth 100000 in
set_option maxHeartbeats 1000000 in
theorem makeLate_stem (p1 p2:Option Addr) (n1 c1 n2 c2:Nat) (x z:Int) (w:World) :
  Calls Tryz.prog 129 #[.agg #[.string ⟨#[115,116,101,109]⟩,.slice p1 n1 c1,.slice p2 n2 c2,.int .i64 x,.int .i64 z]] w fun e w'=>e=.returned (.agg #[.func (.func 206) #[] #[]])∧Below w.heap.size w w':=by
 have bx:Boxed ((w.alloc (.cells #[.string ⟨#[115,116,101,109]⟩,.slice p1 n1 c1,.slice p2 n2 c2,.int .i64 x,.int .i64 z] 96)).alloc (.cells #[(.func (.func 206) #[] #[])] 194)) (w.heap.size+1) 194 (.func (.func 206) #[] #[]):=by
  have:=Boxed.new (w.alloc (.cells #[.string ⟨#[115,116,101,109]⟩,.slice p1 n1 c1,.slice p2 n2 c2,.int .i64 x,.int .i64 z] 96)) 194 (.func (.func 206) #[] #[])
  simpa using this
 go_enter Tryz.func129,Tryz.ntmps129
 go_wp2
 have hB:Below w.heap.size w ((w.alloc (.cells #[.string ⟨#[115,116,101,109]⟩,.slice p1 n1 c1,.slice p2 n2 c2,.int .i64 x,.int .i64 z] 96)).alloc (.cells #[(.func (.func 206) #[] #[])] 194)):=((Below.refl _ w).alloc (Nat.le_refl _) _).alloc (by simp) _
 refine bodyPost_ret (res102 rfl bx.cell) rfl ?_
 exact ⟨rfl,hB⟩
set_option maxRecDepth 100000 in
set_option maxHeartbeats 1000000 in
theorem makeLate_stop (p1 p2:Option Addr) (n1 c1 n2 c2:Nat) (x z:Int) (w:World) :
  Calls Tryz.prog 129 #[.agg #[.string ⟨#[115,116,111,112,40]⟩,.slice p1 n1 c1,.slice p2 n2 c2,.int .i64 x,.int .i64 z]] w fun e w'=>∃ b,e=.returned (.agg #[.func (.func 208) #[] #[.pointer (some ⟨b,0,none⟩)]])∧Blk b 96 #[.string ⟨#[115,116,111,112,40]⟩,.slice p1 n1 c1,.slice p2 n2 c2,.int .i64 x,.int .i64 z] w'∧w.heap.size≤b∧Below w.heap.size w w':=by
 have bx:Boxed ((w.alloc (.cells #[.string ⟨#[115,116,111,112,40]⟩,.slice p1 n1 c1,.slice p2 n2 c2,.int .i64 x,.int .i64 z] 96)).alloc (.cells #[(.func (.func 208) #[] #[.pointer (some ⟨w.heap.size,0,none⟩)])] 194)) (w.heap.size+1) 194 (.func (.func 208) #[] #[.pointer (some ⟨w.heap.size,0,none⟩)]):=by
  have:=Boxed.new (w.alloc (.cells #[.string ⟨#[115,116,111,112,40]⟩,.slice p1 n1 c1,.slice p2 n2 c2,.int .i64 x,.int .i64 z] 96)) 194 (.func (.func 208) #[] #[.pointer (some ⟨w.heap.size,0,none⟩)])
  simpa using this
 have bn:Blk w.heap.size 96 #[.string ⟨#[115,116,111,112,40]⟩,.slice p1 n1 c1,.slice p2 n2 c2,.int .i64 x,.int .i64 z] (w.alloc (.cells #[.string ⟨#[115,116,111,112,40]⟩,.slice p1 n1 c1,.slice p2 n2 c2,.int .i64 x,.int .i64 z] 96)):=heap_alloc_new w _
 go_enter Tryz.func129,Tryz.ntmps129
 go_wp2
 have hB:Below w.heap.size w ((w.alloc (.cells #[.string ⟨#[115,116,111,112,40]⟩,.slice p1 n1 c1,.slice p2 n2 c2,.int .i64 x,.int .i64 z] 96)).alloc (.cells #[(.func (.func 208) #[] #[.pointer (some ⟨w.heap.size,0,none⟩)])] 194)):=((Below.refl _ w).alloc (Nat.le_refl _) _).alloc (by simp) _
 refine bodyPost_ret (res102 rfl bx.cell) rfl ?_
 exact ⟨w.heap.size,rfl,bn.alloc _,Nat.le_refl _,hB⟩
set_option maxRecDepth 100000 in
set_option maxHeartbeats 1000000 in
theorem makeLate_syn (p1 p2:Option Addr) (n1 c1 n2 c2:Nat) (x z:Int) (w:World) :
  Calls Tryz.prog 129 #[.agg #[.string ⟨#[115,121,110,40]⟩,.slice p1 n1 c1,.slice p2 n2 c2,.int .i64 x,.int .i64 z]] w fun e w'=>∃ b,e=.returned (.agg #[.func (.func 211) #[] #[.pointer (some ⟨b,0,none⟩)]])∧Blk b 96 #[.string ⟨#[115,121,110,40]⟩,.slice p1 n1 c1,.slice p2 n2 c2,.int .i64 x,.int .i64 z] w'∧w.heap.size≤b∧Below w.heap.size w w':=by
 have bx:Boxed ((w.alloc (.cells #[.string ⟨#[115,121,110,40]⟩,.slice p1 n1 c1,.slice p2 n2 c2,.int .i64 x,.int .i64 z] 96)).alloc (.cells #[(.func (.func 211) #[] #[.pointer (some ⟨w.heap.size,0,none⟩)])] 194)) (w.heap.size+1) 194 (.func (.func 211) #[] #[.pointer (some ⟨w.heap.size,0,none⟩)]):=by
  have:=Boxed.new (w.alloc (.cells #[.string ⟨#[115,121,110,40]⟩,.slice p1 n1 c1,.slice p2 n2 c2,.int .i64 x,.int .i64 z] 96)) 194 (.func (.func 211) #[] #[.pointer (some ⟨w.heap.size,0,none⟩)])
  simpa using this
 have bn:Blk w.heap.size 96 #[.string ⟨#[115,121,110,40]⟩,.slice p1 n1 c1,.slice p2 n2 c2,.int .i64 x,.int .i64 z] (w.alloc (.cells #[.string ⟨#[115,121,110,40]⟩,.slice p1 n1 c1,.slice p2 n2 c2,.int .i64 x,.int .i64 z] 96)):=heap_alloc_new w _
 go_enter Tryz.func129,Tryz.ntmps129
 go_wp2
 have hB:Below w.heap.size w ((w.alloc (.cells #[.string ⟨#[115,121,110,40]⟩,.slice p1 n1 c1,.slice p2 n2 c2,.int .i64 x,.int .i64 z] 96)).alloc (.cells #[(.func (.func 211) #[] #[.pointer (some ⟨w.heap.size,0,none⟩)])] 194)):=((Below.refl _ w).alloc (Nat.le_refl _) _).alloc (by simp) _
 refine bodyPost_ret (res102 rfl bx.cell) rfl ?_
 exact ⟨w.heap.size,rfl,bn.alloc _,Nat.le_refl _,hB⟩
set_option maxRecDepth 100000 in
set_option maxHeartbeats 1000000 in
theorem makeLate_len (p1 p2:Option Addr) (n1 c1 n2 c2:Nat) (x z:Int) (w:World) :
  Calls Tryz.prog 129 #[.agg #[.string ⟨#[108,101,110,40]⟩,.slice p1 n1 c1,.slice p2 n2 c2,.int .i64 x,.int .i64 z]] w fun e w'=>∃ b,e=.returned (.agg #[.func (.func 213) #[] #[.pointer (some ⟨b,0,none⟩)]])∧Blk b 96 #[.string ⟨#[108,101,110,40]⟩,.slice p1 n1 c1,.slice p2 n2 c2,.int .i64 x,.int .i64 z] w'∧w.heap.size≤b∧Below w.heap.size w w':=by
 have bx:Boxed ((w.alloc (.cells #[.string ⟨#[108,101,110,40]⟩,.slice p1 n1 c1,.slice p2 n2 c2,.int .i64 x,.int .i64 z] 96)).alloc (.cells #[(.func (.func 213) #[] #[.pointer (some ⟨w.heap.size,0,none⟩)])] 194)) (w.heap.size+1) 194 (.func (.func 213) #[] #[.pointer (some ⟨w.heap.size,0,none⟩)]):=by
  have:=Boxed.new (w.alloc (.cells #[.string ⟨#[108,101,110,40]⟩,.slice p1 n1 c1,.slice p2 n2 c2,.int .i64 x,.int .i64 z] 96)) 194 (.func (.func 213) #[] #[.pointer (some ⟨w.heap.size,0,none⟩)])
  simpa using this
 have bn:Blk w.heap.size 96 #[.string ⟨#[108,101,110,40]⟩,.slice p1 n1 c1,.slice p2 n2 c2,.int .i64 x,.int .i64 z] (w.alloc (.cells #[.string ⟨#[108,101,110,40]⟩,.slice p1 n1 c1,.slice p2 n2 c2,.int .i64 x,.int .i64 z] 96)):=heap_alloc_new w _
 go_enter Tryz.func129,Tryz.ntmps129
 go_wp2
 have hB:Below w.heap.size w ((w.alloc (.cells #[.string ⟨#[108,101,110,40]⟩,.slice p1 n1 c1,.slice p2 n2 c2,.int .i64 x,.int .i64 z] 96)).alloc (.cells #[(.func (.func 213) #[] #[.pointer (some ⟨w.heap.size,0,none⟩)])] 194)):=((Below.refl _ w).alloc (Nat.le_refl _) _).alloc (by simp) _
 refine bodyPost_ret (res102 rfl bx.cell) rfl ?_
 exact ⟨w.heap.size,rfl,bn.alloc _,Nat.le_refl _,hB⟩
set_option maxRecDepth 100000 in
set_option maxHeartbeats 1000000 in
theorem makeLate_gram (p1 p2:Option Addr) (n1 c1 n2 c2:Nat) (x z:Int) (w:World) :
  Calls Tryz.prog 129 #[.agg #[.string ⟨#[103,114,97,109,40]⟩,.slice p1 n1 c1,.slice p2 n2 c2,.int .i64 x,.int .i64 z]] w fun e w'=>∃ b,e=.returned (.agg #[.func (.func 215) #[] #[.pointer (some ⟨b,0,none⟩)]])∧Blk b 96 #[.string ⟨#[103,114,97,109,40]⟩,.slice p1 n1 c1,.slice p2 n2 c2,.int .i64 x,.int .i64 z] w'∧w.heap.size≤b∧Below w.heap.size w w':=by
 have bx:Boxed ((w.alloc (.cells #[.string ⟨#[103,114,97,109,40]⟩,.slice p1 n1 c1,.slice p2 n2 c2,.int .i64 x,.int .i64 z] 96)).alloc (.cells #[(.func (.func 215) #[] #[.pointer (some ⟨w.heap.size,0,none⟩)])] 194)) (w.heap.size+1) 194 (.func (.func 215) #[] #[.pointer (some ⟨w.heap.size,0,none⟩)]):=by
  have:=Boxed.new (w.alloc (.cells #[.string ⟨#[103,114,97,109,40]⟩,.slice p1 n1 c1,.slice p2 n2 c2,.int .i64 x,.int .i64 z] 96)) 194 (.func (.func 215) #[] #[.pointer (some ⟨w.heap.size,0,none⟩)])
  simpa using this
 have bn:Blk w.heap.size 96 #[.string ⟨#[103,114,97,109,40]⟩,.slice p1 n1 c1,.slice p2 n2 c2,.int .i64 x,.int .i64 z] (w.alloc (.cells #[.string ⟨#[103,114,97,109,40]⟩,.slice p1 n1 c1,.slice p2 n2 c2,.int .i64 x,.int .i64 z] 96)):=heap_alloc_new w _
 go_enter Tryz.func129,Tryz.ntmps129
 go_wp2
 have hB:Below w.heap.size w ((w.alloc (.cells #[.string ⟨#[103,114,97,109,40]⟩,.slice p1 n1 c1,.slice p2 n2 c2,.int .i64 x,.int .i64 z] 96)).alloc (.cells #[(.func (.func 215) #[] #[.pointer (some ⟨w.heap.size,0,none⟩)])] 194)):=((Below.refl _ w).alloc (Nat.le_refl _) _).alloc (by simp) _
 refine bodyPost_ret (res102 rfl bx.cell) rfl ?_
 exact ⟨w.heap.size,rfl,bn.alloc _,Nat.le_refl _,hB⟩
set_option maxRecDepth 100000 in
set_option maxHeartbeats 1000000 in
theorem makeLate_edge (p1 p2:Option Addr) (n1 c1 n2 c2:Nat) (x z:Int) (w:World) :
  Calls Tryz.prog 129 #[.agg #[.string ⟨#[101,100,103,101,40]⟩,.slice p1 n1 c1,.slice p2 n2 c2,.int .i64 x,.int .i64 z]] w fun e w'=>∃ b,e=.returned (.agg #[.func (.func 217) #[] #[.pointer (some ⟨b,0,none⟩)]])∧Blk b 96 #[.string ⟨#[101,100,103,101,40]⟩,.slice p1 n1 c1,.slice p2 n2 c2,.int .i64 x,.int .i64 z] w'∧w.heap.size≤b∧Below w.heap.size w w':=by
 have bx:Boxed ((w.alloc (.cells #[.string ⟨#[101,100,103,101,40]⟩,.slice p1 n1 c1,.slice p2 n2 c2,.int .i64 x,.int .i64 z] 96)).alloc (.cells #[(.func (.func 217) #[] #[.pointer (some ⟨w.heap.size,0,none⟩)])] 194)) (w.heap.size+1) 194 (.func (.func 217) #[] #[.pointer (some ⟨w.heap.size,0,none⟩)]):=by
  have:=Boxed.new (w.alloc (.cells #[.string ⟨#[101,100,103,101,40]⟩,.slice p1 n1 c1,.slice p2 n2 c2,.int .i64 x,.int .i64 z] 96)) 194 (.func (.func 217) #[] #[.pointer (some ⟨w.heap.size,0,none⟩)])
  simpa using this
 have bn:Blk w.heap.size 96 #[.string ⟨#[101,100,103,101,40]⟩,.slice p1 n1 c1,.slice p2 n2 c2,.int .i64 x,.int .i64 z] (w.alloc (.cells #[.string ⟨#[101,100,103,101,40]⟩,.slice p1 n1 c1,.slice p2 n2 c2,.int .i64 x,.int .i64 z] 96)):=heap_alloc_new w _
 go_enter Tryz.func129,Tryz.ntmps129
 go_wp2
 have hB:Below w.heap.size w ((w.alloc (.cells #[.string ⟨#[101,100,103,101,40]⟩,.slice p1 n1 c1,.slice p2 n2 c2,.int .i64 x,.int .i64 z] 96)).alloc (.cells #[(.func (.func 217) #[] #[.pointer (some ⟨w.heap.size,0,none⟩)])] 194)):=((Below.refl _ w).alloc (Nat.le_refl _) _).alloc (by simp) _
 refine bodyPost_ret (res102 rfl bx.cell) rfl ?_
 exact ⟨w.heap.size,rfl,bn.alloc _,Nat.le_refl _,hB⟩
theorem makeLate_ok [Inhabited Exb] (i:Nat) (hi:i<Pl.lates.length) (sp:Sp) (hnm:sp.nm=Pl.lates[i]) (hw:SpW sp) (base:Nat) (v1 v2:Value) (x z:Int) (w:World) (hO:StE base sp v1 v2 x z w) (hE:Ends w) :
  Calls Tryz.prog 129 #[.agg #[.string sp.nm,v1,v2,.int .i64 x,.int .i64 z]] w fun e w'=>∃ f,e=.returned (.agg #[f])∧LOk f i sp w'∧Below w.heap.size w w':=by
 obtain ⟨p1,c1,rfl,_,_⟩:=row_form hO.r1
 obtain ⟨p2,c2,rfl,_,_⟩:=row_form hO.r2
 have hi7:i<7:=hi
 rw [hnm]
 obtain rfl | rfl | rfl | rfl | rfl | rfl | rfl:i=0∨i=1∨i=2∨i=3∨i=4∨i=5∨i=6:=by omega
 ·refine (makeLate_low p1 p2 _ c1 _ c2 x z w).mono ?_
  rintro e w' ⟨rfl,hB⟩
  exact ⟨_,rfl,lok_low sp w',hB⟩
 ·refine (makeLate_stem p1 p2 _ c1 _ c2 x z w).mono ?_
  rintro e w' ⟨rfl,hB⟩
  exact ⟨_,rfl,lok_stem sp w' (hE.below hB),hB⟩
 ·refine (makeLate_stop p1 p2 _ c1 _ c2 x z w).mono ?_
  rintro e w' ⟨b,rfl,hb,_,hB⟩
  have hO':=hO.stb (Stb.of_grown (grown_below hB) (fun r e=>by cases e))
  exact ⟨_,rfl,lok_stop sp hw b base _ _ x z _ w' hb hO',hB⟩
 ·refine (makeLate_syn p1 p2 _ c1 _ c2 x z w).mono ?_
  rintro e w' ⟨b,rfl,hb,_,hB⟩
  have hO':=hO.stb (Stb.of_grown (grown_below hB) (fun r e=>by cases e))
  exact ⟨_,rfl,lok_syn sp hw b base _ _ x z _ w' hb hO',hB⟩
 ·refine (makeLate_len p1 p2 _ c1 _ c2 x z w).mono ?_
  rintro e w' ⟨b,rfl,hb,_,hB⟩
  have hO':=hO.stb (Stb.of_grown (grown_below hB) (fun r e=>by cases e))
  exact ⟨_,rfl,lok_len sp b base _ _ x z _ w' hb hO',hB⟩
 ·refine (makeLate_gram p1 p2 _ c1 _ c2 x z w).mono ?_
  rintro e w' ⟨b,rfl,hb,_,hB⟩
  have hO':=hO.stb (Stb.of_grown (grown_below hB) (fun r e=>by cases e))
  exact ⟨_,rfl,lok_gram sp hw b base _ _ x z _ w' hb hO',hB⟩
 ·refine (makeLate_edge p1 p2 _ c1 _ c2 x z w).mono ?_
  rintro e w' ⟨b,rfl,hb,_,hB⟩
  have hO':=hO.stb (Stb.of_grown (grown_below hB) (fun r e=>by cases e))
  exact ⟨_,rfl,lok_edge sp hw b base _ _ x z _ w' hb hO',hB⟩
end Go.Proofs.YtcmgclckknpecaaGreatDoor
