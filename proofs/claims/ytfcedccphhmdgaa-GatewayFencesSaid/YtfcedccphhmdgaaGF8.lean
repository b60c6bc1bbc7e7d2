/- What gatewayFences_proved stands on, part 8 of 8. -/
import Derived.Test.YtfcedccphhmdgaaGF7
namespace Go.Proofs.Ytfcedccphhmdgaa
open Go.RowKit Abs
theorem eqFnN(b:Nat)(h:AHeap):opBin Try.prog h .eql 85 true (some (AV.fn 56 [] [.ptr b 0])) (some AV.nfn)=some (.val (.bool false),h):=by kernel_rfl
section
variable {N n d D db jb y bx:Nat}{nb:Nat→Prop}{H H':AHeap}{L:List Snd}{x:Snd}{br:Int}{Q:ARes→AHeap→Prop}
theorem JAt.sv_ld(J:JAt nb H jb db L br):∃sv,ldCell H (.ptr jb (0+1))=some sv∧SndAt H sv L∧∀b∈blkV sv,nb b:=by
 obtain⟨sv,mb,ml,D,_,_,n3⟩:=J;exact⟨sv,y5 D.row rfl,D.sl,n3⟩
theorem jall_loop{both:BothF}{yb sv:AV}{Inv:Nat→AHeap→Prop}(hl:L.length<1000000)(hsv:∀i H,Inv i H→SndAt H sv L)(step:∀i H (hi:i<L.length),Inv i H→∀H1,Tch [] H H1→∃H',dynB Try.prog both yb [.agg (sndC L[i])] H1=some (.ret (.bool true),H')∧Inv (i+1) H'){k15:AHeap→R}(hk:∀H,Inv L.length H→Wp (k15 H) Q):
  ∀(r i fu:Nat) (H:AHeap),r+i=L.length→r<fu→Inv i H→Wp (journal_Journal_All_1_L0 both yb sv (L.length:Int) k15 fu (i:Int) H) Q
 |_,_,0,_,_,hf,_=>by omega
 |0,i,fu+1,H,hi,_,I=>by
  obtain rfl:i=L.length:=by omega
  rw[journal_Journal_All_1_L0_s];unfold journal_Journal_All_1_L0b;exact Wp.lett (y7 (by rw[decide_eq_false_iff_not];omega) (hk H I))
 |r+1,i,fu+1,H,hi,hf,I=>by
  have hil:i<L.length:=by omega
  obtain⟨p,e1,e2⟩:=(hsv i H I).at hil;rw[journal_Journal_All_1_L0_s];unfold journal_Journal_All_1_L0b;refine Wp.lett (yc (by rw[decide_eq_true_eq];omega) (Wp.obind e1 (Wp.obind e2 (y11 (Mem.nil [] H) fun h2 M2=>?_))));rw[newP_eq H];refine y1a M2 rfl rfl (snd_one _) fun h3 M3=>y32 M3 rfl ?_;obtain⟨H',e3,I'⟩:=step i H hil I h3 M3.tch;refine Wp.callN e3 (Wp.obind (avBool_bool _) (Wp.lett (y7 rfl (ye (by omega) (by omega) ?_))));rw[show (i:Int)+1=((i+1:Nat):Int) by omega];exact jall_loop hl hsv step hk r (i+1) fu H' (by omega) (by omega) I'
theorem jall_iter{Inv:Nat→AHeap→Prop}(hn:1000000<n)(hl:L.length<1000000)(J:JAt nb H jb db L br)(kb:RowH H bx TPJ [.ptr jb 0])(hsv:∀sv,ldCell H (.ptr jb (0+1))=some sv→∀i H2,Inv i H2→SndAt H2 sv L)(step:∀i H (hi:i<L.length),Inv i H→∀H1,Tch [] H H1→∃H',dynB Try.prog (wL n D d) (.yld y) [.agg (sndC L[i])] H1=some (.ret (.bool true),H')∧Inv (i+1) H')(h0:Inv 0 H):∃H',wL n D (d+1) false 56 [.yld y,.ptr bx 0] H=some (.ret (.tup []),H')∧Inv L.length H':=by
 suffices hK:Wp (journal_Journal_All_1 (wL n D d) n (.yld y) (.ptr bx 0) H) fun r H'=>r=.ret (.tup [])∧Inv L.length H' by
  obtain⟨_,H',e,rfl,k⟩:=hK;exact⟨H',wL_journal_Journal_All_1 n D d _ _ e,k⟩
 obtain⟨sv,e1,s1,_⟩:=J.sv_ld;unfold journal_Journal_All_1;refine Wp.obind (y5 kb rfl) (Wp.outK (eqJou jb H) (Wp.obind (avBool_bool _) (y7 rfl (Wp.obind (y5 kb rfl) (Wp.obind (nilC_ptr _ _) (Wp.obind (fldP_ptr _ _ _) (Wp.obind e1 (Wp.obind s1.len (y8 fun k15 e15=>jall_loop (Inv:=Inv) hl (hsv sv e1) step (fun H2 I=>?_) L.length 0 n H (Nat.add_zero _) (by omega) h0)))))))));rw[e15];exact y2e (Wp.ret ⟨rfl,I⟩)
set_option maxHeartbeats 1000000 in
theorem list_round{ox:Nat}{ov:AV}{l:List Snd}{t0:T AV}{Dm:Nat}(hrec:H.get y=some (recQ .ready .none (law23_list_R0 n).N (law23_list_R0 n).c t0 Dm))(hy:y<H.next)(ko:RowH H ox TTks [ov])(hox:ox<H.next)(so:SndAt H ov l)(hx:H.ex=[])(hl:l.length<1000000)(hg:((putPs (law23_list_R0 n).N (y16 (law23_list_R0 n).c).toList [.agg (sndC x)] t0).bind fun t=>slotsC t (law23_list_R0 n).sa)=some [.ptr ox 0,.agg (sndC x)])(hoy:y ∉ blkV ov):
  ∃H' ov',wL n D (d+1) true y [.agg (sndC x)] H=some (.ret (.bool true),H')∧RowH H' ox TTks [ov']∧SndAt H' ov' (l++[x])∧H'.get y=some (recQ .ready .none (law23_list_R0 n).N (law23_list_R0 n).c t0 Dm)∧H.next≤H'.next∧H'.ex=[]∧(∀b∈blkV ov',H.next≤b)∧(∀b,b<H.next→b≠ox→b≠y→b ∉ blkV ov→H'.get b=H.get b):=by
 have nco:=recS_ne ko hrec
 have hoo:ox ∉ blkV ov:=fun hb=>by
  rcases so with⟨rfl,_⟩|⟨c,rfl,hr,_⟩
  ·cases hb
  ·exact y3a ko hr (by decide) (List.mem_singleton.1 hb)
 obtain⟨G,hG⟩:∃G:Int→AHeap→Prop,G=fun z H'=>z=0∧∃ov',RowH H' ox TTks [ov']∧SndAt H' ov' (l++[x])∧H'.get y=some (recQ .ready .none (law23_list_R0 n).N (law23_list_R0 n).c t0 Dm)∧H.next≤H'.next∧H'.ex=[]∧(∀b∈blkV ov',H.next≤b)∧(∀b,b<H.next→b≠ox→b≠y→b ∉ blkV ov→H'.get b=H.get b):=⟨_,rfl⟩;have key:=round_W (both:=wL n D d) (sites:=wLS n) (G:=G) hrec (fun st jj=>wLS_law23_list_R0 n st jj t0 Dm) hg ?_
 ·obtain ⟨z, H', e, hk⟩ := key
  rw[hG] at hk;obtain⟨rfl,ov',k⟩:=hk;rw[wL_r];exact⟨H',ov',e,k⟩
 ·show Wp (law23_list_R0A_fn (wL n D d) n [.ptr ox 0, .agg (sndC x)] H) _
  rw[law23_list_R0A_fn_eq];unfold law23_list_R0A;have tp:∀(G:AHeap) (o:AObj),Tch [y] G (G.put y o):=fun G o=>Tch.put (.inl (List.mem_singleton.2 rfl)) _;have m1:∀{a b:Nat},a≠b→a ∉ [b]:=fun h h2=>h (List.mem_singleton.1 h2);refine y11 (Mem.nil [] H) fun h2 M2=>?_;rw[newP_eq H];refine y1a M2 rfl rfl (snd_one _) fun h3 M3=>?_;have t3:=M3.tch;have n3:=t3.1;have l3:=M3.at0.2.1;refine Wp.ret ⟨_,rfl,t3.2.2 y hy (fun h=>nomatch h),by kernel_rfl,?_⟩;obtain⟨H1,hH1⟩:∃H1,H1=h3.put y (recQ .busy .none (law23_list_R0 n).N (law23_list_R0 n).c t0 Dm):=⟨_,rfl⟩;have t1:Tch [y] h3 H1:=by rw[hH1];exact tp h3 _
  have g1:H1.get y=some (recQ .busy .none (law23_list_R0 n).N (law23_list_R0 n).c t0 Dm):=by rw[hH1];exact get_put_same _ _
  have n1:H1.next=h3.next:=by rw[hH1];rfl
  have x1:H1.ex=[]:=by rw[t1.2.1,t3.2.1,hx]
  have ko1:=(ko.tch t3 hox (fun h=>nomatch h)).tch t1 (by omega) (m1 nco);have kb1:=M3.at0.1.tch t1 l3 (m1 (by omega));have so1:=(so.tch t3 (fun _ _ h=>nomatch h)).tch t1 (fun b hb h=>hoy (List.mem_singleton.1 h▸hb));rw[←hH1];show Wp (law23_list_R0B_fn (wL n D d) n [.ptr ox 0,.ptr H.next 0] H1) _;rw[law23_list_R0B_fn_eq];unfold law23_list_R0B;refine Wp.obind (y5 ko1 rfl) (Wp.obind (kb1.ldAll rfl) (y31 (Mem.nil [] H1) (bldTk _ _ _ _ _ _) rfl (by rw[x1];rfl) fun h4 M4=>?_));have t4:=M4.tch;have n4:=t4.1;have so4:=so1.tch t4 (fun _ _ h=>nomatch h);obtain⟨h5,e5,s5,t5⟩:=so4.push (c:=x) M4.at0.1 (by omega) (by rw[t4.2.1,x1]);have n5:=t5.1;have ko5:=(ko1.tch t4 (by omega) (fun h=>nomatch h)).tch t5 (by omega) hoo;refine Wp.outK e5 (Wp.st1 ko5 (show 0<1 by decide) rfl fun h6 ko6 t6 n6=>Wp.ret ⟨0,rfl,?_,?_⟩)
  ·rw [t6.2.2 y (by omega) (m1 (fun h => nco h.symm)), t5.2.2 y (by omega) hoy, t4.2.2 y (by omega) (fun h => nomatch h)]
   exact g1
  rw[hG];have ls:=s5.lt h4.next (List.mem_singleton.2 rfl)
  have s6:=s5.tch t6 (fun b hb h=>by
   have h1:=List.mem_singleton.1 hb;have h2:=List.mem_singleton.1 h;omega)
  refine⟨rfl,_,ko6.tch (tp _ _) (by omega) (m1 nco),s6.tch (tp _ _) (fun b hb h=>by
   have h1:=List.mem_singleton.1 hb;have h2:=List.mem_singleton.1 h;omega),get_put_same _ _,?_,?_,fun b hb=>?_,fun b hb h1 h2 h3'=>?_⟩
  ·show H.next ≤ h6.next
   omega
  ·show h6.ex = []
   rw[t6.2.1,t5.2.1,t4.2.1,x1]
  ·rw [List.mem_singleton.1 hb]
   omega
  ·rw[get_put_other _ (fun h=>h2 h.symm),t6.2.2 b (by omega) (m1 h1),t5.2.2 b (by omega) h3',t4.2.2 b (by omega) (fun h=>nomatch h),t1.2.2 b (by omega) (m1 h2),t3.2.2 b hb (fun h=>nomatch h)]
end
abbrev TMsg:Nat:=33
abbrev TGw:Nat:=73
abbrev TSn:Nat:=71
structure Ms where
 kd:Int
 fr:Int
 to:Int
 tm:Int
 ix:Int
 lt:Int
 cm:Int
 st:Int
 gd:Bool
 en:AV
 pl:Int
 tl:Int
 da:Bytes
 tk:Int
 tt:Int
 te:Int
 sq:Int
 cl:Int
 rq:Int
 op:Int
 er:Int
 ld:Int
noncomputable def msC(m:Ms):List AV:=[.int .u8 m.kd,.int .i64 m.fr,.int .i64 m.to,.int .i64 m.tm,.int .i64 m.ix,.int .i64 m.lt,.int .i64 m.cm,.int .i64 m.st,.bool m.gd,m.en,.int .i64 m.pl,.int .i64 m.tl,strA m.da,.int .i64 m.tk,.int .i64 m.tt,.int .i64 m.te,.int .i64 m.sq,.int .i64 m.cl,.int .i64 m.rq,.int .u8 m.op,.int .i64 m.er,.int .i64 m.ld]
def m0:Ms:=⟨0,0,0,0,0,0,0,0,false,.nsl,0,0,[],0,0,0,0,0,0,0,0,0⟩
theorem ms_one{m:Ms}(h:m.en.one=true):(msC m).all AV.one=true:=by
 simp only[msC,List.all_cons,List.all_nil,h];rfl
def fnE(l:List (Int×Int×Int)):List (AV×AV):=l.map fun p=>(.int .i64 p.1,.agg [.int .i64 p.2.1,.int .i64 p.2.2])
theorem find_fn(P:Program)(t:TypeId)(k:Int):∀l:List (Int×Int×Int),∃o:Option (Int×Int),findM P t (.int .i64 k) (fnE l)=some (o.map fun x=>.agg [.int .i64 x.1,.int .i64 x.2])
 |[]=>⟨none,rfl⟩
 |p::l=>by
  obtain⟨o,ho⟩:=find_fn P t k l
  have e:findM P t (.int .i64 k) (fnE (p::l))=(match keySame P t (.int .i64 k) (.int .i64 p.1) with
   |some true=>some (some (AV.agg [.int .i64 p.2.1,.int .i64 p.2.2]))
   |some false=>findM P t (.int .i64 k) (fnE l)
   |none=>none):=rfl
  rw[sameKI] at e
  by_cases h:k=p.1
  ·rw [decide_eq_true h] at e
   exact⟨some p.2,e⟩
  ·rw [decide_eq_false h] at e
   exact⟨o,e.trans ho⟩
theorem put_fn(P:Program)(t:TypeId)(k a b:Int):∀l:List (Int×Int×Int),∃l',putM P t (.int .i64 k) (.agg [.int .i64 a,.int .i64 b]) (fnE l)=some (fnE l')
 |[]=>⟨[(k,a,b)],rfl⟩
 |p::l=>by
  obtain⟨l',hl⟩:=put_fn P t k a b l
  have e:putM P t (.int .i64 k) (.agg [.int .i64 a,.int .i64 b]) (fnE (p::l))=(match keySame P t (.int .i64 k) (.int .i64 p.1) with
   |some true=>some ((AV.int .i64 k,AV.agg [.int .i64 a,.int .i64 b])::fnE l)
   |some false=>match putM P t (.int .i64 k) (.agg [.int .i64 a,.int .i64 b]) (fnE l) with
    |some r=>some ((AV.int .i64 p.1,AV.agg [.int .i64 p.2.1,.int .i64 p.2.2])::r)
    |none=>none
   |none=>none):=rfl
  rw[sameKI] at e
  by_cases h:k=p.1
  ·rw [decide_eq_true h] at e
   exact⟨(k,a,b)::l,e⟩
  ·rw [decide_eq_false h] at e
   dsimp only at e;rw[hl] at e;exact⟨p::l',e⟩
theorem undSn:Pg.underlying TSn=some (.map 3 TFen):=by kernel_rfl
theorem lookSn{H:AHeap}{mb:Nat}{l:List (Int×Int×Int)}(k:Int)(hm:H.get mb=some (.map (fnE l))):∃a b,opLookup Pg H TSn false (some (.mp mb)) (some (.int .i64 k))=some (.val (.agg [.int .i64 a,.int .i64 b]),H)∧(l=[]→a=0∧b=0):=by
 obtain⟨o,ho⟩:=find_fn Pg 3 k l
 have hg:mapGet H (.mp mb)=some (fnE l):=by
  unfold mapGet;dsimp only;rw[hm]
 have hz:zeroA Pg TFen=some (.agg [.int .i64 0,.int .i64 0]):=by kernel_rfl
 unfold opLookup;rw[undSn];dsimp only;rw[keyI,if_pos rfl,hg];dsimp only;rw[ho]
 cases o with
 |none=>
  refine⟨0,0,?_,fun _=>⟨rfl,rfl⟩⟩;unfold lookOut;dsimp only[Option.map];rw[hz];rfl
 |some w=>
  refine⟨w.1,w.2,rfl,fun h=>?_⟩;subst h;have e0:findM Pg 3 (.int .i64 k) (fnE [])=some none:=rfl;rw[e0] at ho;cases ho
theorem putSn{H:AHeap}{mb:Nat}{l:List (Int×Int×Int)}(k a b:Int)(hm:H.get mb=some (.map (fnE l))):∃l',opMapUpdate Pg H TSn (some (.mp mb)) (some (.int .i64 k)) (some (.agg [.int .i64 a,.int .i64 b]))=some (.skip,H.put mb (.map (fnE l'))):=by
 obtain⟨l',hl⟩:=put_fn Pg 3 k a b l;refine⟨l',?_⟩;unfold opMapUpdate;rw[undSn];dsimp only;rw[keyI,if_pos rfl]
 have hg:mapGet H (.mp mb)=some (fnE l):=by
  unfold mapGet;dsimp only;rw[hm]
 rw[hg];dsimp only;rw[hl];rfl
theorem above_trans{a b c d e f:Int}(h1:aboveJ a b c d=false)(h2:aboveJ c d e f=false):aboveJ a b e f=false:=by
 unfold aboveJ at *
 split at h1<;>split at h2<;>split<;>simp at * <;>omega
theorem above_asym{a b c d:Int}(h1:aboveJ a b c d=true):aboveJ c d a b=false:=by
 unfold aboveJ at *
 split at h1<;>split<;>simp at * <;>omega
theorem eqGw(b:Nat)(h:AHeap):opBin Pg h .eql 25 true (some (.ptr b 0)) (some AV.nilp)=some (.val (.bool false),h):=by kernel_rfl
theorem eqRing(h:AHeap):opBin Pg h .eql 38 true (some AV.nilp) (some AV.nilp)=some (.val (.bool true),h):=by kernel_rfl
section
variable {n d jb db gb sb:Nat}{nb:Nat→Prop}{H H':AHeap}{L:List Snd}{br gr:Int}{m:Ms}{sl:List (Int×Int×Int)}{Q:ARes→AHeap→Prop}
theorem end_nil:world n (d+1) 39 [.nilp] H=some (.ret (.int .i64 0),H):=by
 rw[w_ring_Ring_End];unfold ring_Ring_End;rw[eqRing,outK_val,avBool_bool,obind_val,ifB_true]
theorem from_nil(a b:Int):world n (d+1) 41 [.nilp,.int .i64 a,.int .i64 b] H=some (.ret (.tup [strA [],.int .i64 0,.int .i64 1]),H):=by
 rw[w_ring_Ring_From];unfold ring_Ring_From;rw[eqRing,outK_val,avBool_bool,obind_val,ifB_true]
theorem right_w(J:JAt nb H jb db L br)(G:RowH H gb TGw [.ptr jb 0,.mp sb,.int .i64 gr])(hg:gb<H.next)(hm:H.get sb=some (.map (fnE sl)))(hs:sb<H.next){k:Int}(hq: -1≤(lastZ L k).q∧(lastZ L k).q <9223372036854775806):
  ∃H' a b,world n (d+2) 13 [.ptr gb 0,.int .i64 k] H=some (.ret (.tup [.agg [.int .i64 a,.int .i64 b],.int .i64 (lastZ L k).q]),H')∧Tch [] H H'∧(sl=[]→L=[]→a=0∧b=0)∧∀c e,aboveJ a b c e=false→aboveJ (lastZ L k).t (lastZ L k).e c e=false:=by
 suffices hK:Wp (world n (d+2) 13 [.ptr gb 0,.int .i64 k] H) fun r H'=>∃a b,r=.ret (.tup [.agg [.int .i64 a,.int .i64 b],.int .i64 (lastZ L k).q])∧Tch [] H H'∧(sl=[]→L=[]→a=0∧b=0)∧∀c e,aboveJ a b c e=false→aboveJ (lastZ L k).t (lastZ L k).e c e=false by
  obtain⟨_,H',e,a,b,rfl,t⟩:=hK;exact⟨H',a,b,e,t⟩
 rw[w_gateway_Gateway_Right];unfold gateway_Gateway_Right;refine y11 (Mem.nil [] H) fun h2 M2=>?_;have t2:=M2.tch;have k2:=M2.at0.1;have l2:=M2.at0.2.1;have n2:=t2.1;have G2:=G.tch t2 hg (fun h=>nomatch h);obtain⟨h3,e3,t3⟩:=jnext_w (n:=n) (d:=d) (J.tch t2 (fun _ h=>nomatch h)) hq;have n3:=t3.1;have k3:=k2.tch t3 l2 (fun h=>nomatch h);refine Wp.outK (eqGw gb h2) (Wp.obind (avBool_bool _) (y7 rfl (Wp.obind (nilC_ptr _ _) (Wp.obind (fldP_ptr _ _ _) (Wp.obind (y5 G2 rfl) (Wp.callN e3 (Wp.obind (extT_0 _ _) (Wp.obind (avAgg_agg _) (Wp.obind (extT_1 _ _ _) (Wp.obind (avInt_int _ _) (y11 (Mem.nil [] h3) fun h4 M4=>?_)))))))))));rw[newP_eq h3];refine y1a M4 rfl rfl rfl fun h5 M5=>?_;have t5:=M5.tch;have n5:=t5.1;have kj5:=M5.at0.1;have lj5:=M5.at0.2.1;have T5:=(t2.trans t3).trans t5;have G5:=G.tch T5 hg (fun h=>nomatch h);have m5:h5.get sb=some (.map (fnE sl)):=(T5.2.2 sb hs (fun h=>nomatch h)).trans hm;obtain⟨a,b,el,ez⟩:=lookSn k m5;refine Wp.obind (nilC_ptr _ _) (Wp.obind (fldP_ptr _ _ _) (Wp.obind (y5 G5 rfl) (Wp.outK el (Wp.obind (avAgg_agg _) (y11 (Mem.nil [] h5) fun h6 M6=>?_)))));rw[newP_eq h5];refine y1a M6 rfl rfl rfl fun h7 M7=>y32 M7 rfl ?_;have t7:=M7.tch;have n7:=t7.1;have kj7:=kj5.tch t7 lj5 (fun h=>nomatch h);have ks7:=M7.at0.1;have T7:=T5.trans t7;have kr7:=((k3.tch t5 (by omega) (fun h=>nomatch h))).tch t7 (by omega) (fun h=>nomatch h);refine Wp.obind (kj7.ldAll rfl) (Wp.callN (above_w (n:=n) (d:=d) _ _ _ _) (Wp.obind (avBool_bool _) (y8 fun k45 e45=>?_)))
 have fin:∀(h8:AHeap) (x y:Int),RowH h8 h3.next TFen [.int .i64 x,.int .i64 y]→RowH h8 H.next TFen [.int .i64 0,.int .i64 0]→Tch [] H h8→(sl=[]→L=[]→x=0∧y=0)→(∀c e,aboveJ x y c e=false→aboveJ (lastZ L k).t (lastZ L k).e c e=false)→Wp (k45 h8) fun r H'=>∃a b,r=.ret (.tup [.agg [.int .i64 a,.int .i64 b],.int .i64 (lastZ L k).q])∧Tch [] H H'∧(sl=[]→L=[]→a=0∧b=0)∧∀c e,aboveJ a b c e=false→aboveJ (lastZ L k).t (lastZ L k).e c e=false:=fun h8 x y kj8 kr8 T8 hz hxy=>by
  rw[e45,newP_eq H];refine Wp.obind (kj8.ldAll rfl) (ye (by omega) (by omega) (Wp.stAll kr8 rfl rfl rfl fun h9 k9 t9 n9=>Wp.obind (k9.ldAll rfl) ?_));rw[show (lastZ L k).q+1 - 1=(lastZ L k).q by omega];exact Wp.ret ⟨x,y,rfl,T8.trans' t9 fun b hb=>.inr (by rw[List.mem_singleton.1 hb];exact Nat.le_refl _),hz,hxy⟩
 cases ha:aboveJ a b (lastZ L k).t (lastZ L k).e with
 |true=>
  refine yc rfl (Wp.obind (ks7.ldAll rfl) (Wp.stAll kj7 rfl rfl rfl fun h8 k8 t8 n8=>fin h8 a b k8 (kr7.tch t8 (by omega) (fun h=>by have:=List.mem_singleton.1 h;omega)) (T7.trans' t8 fun b hb=>.inr (by rw[List.mem_singleton.1 hb];omega)) (fun h _=>ez h) fun c e h=>above_trans (above_asym ha) h))
 |false=>exact y7 rfl (fin h7 _ _ kj7 kr7 T7 (fun _ h=>by subst h;exact⟨rfl,rfl⟩) fun c e h=>h)
def isR(m:Ms):Prop:=(1≤m.tk∧m.tk≤1048576)∧(1≤m.tt∧m.tt≤1099511627776)∧1≤m.te∧m.te≤1048576
def isRf(m:Ms):Prop:=(((((((0≤m.fr)∧m.fr<16)∧1≤m.tk)∧m.tk≤1048576)∧1≤m.tt)∧m.tt≤1099511627776)∧1≤m.te)∧m.te≤1048576
instance (m:Ms):Decidable (isRf m):=inferInstanceAs (Decidable (_∧_))
theorem isRf_ok{m:Ms}(h:isRf m):isR m:=⟨⟨h.1.1.1.1.1.2,h.1.1.1.1.2⟩,⟨h.1.1.1.2,h.1.1.2⟩,h.1.2,h.2⟩
theorem isRight_w(hen:m.en.one=true):world n (d+1) 23 [.agg (msC m)] H=some (.ret (.bool (decide (isRf m))),H):=by
 apply Wp.eq;rw[w_gateway_isRight];refine y3d ?_;unfold gateway_isRight;refine y17 (Mem.nil [] H) (ms_one hen) fun h2 M2=>?_;have k2:=M2.at0.1;have A:=M2.tch.above;have g1:(msC m)[0+1]? =some (.int .i64 m.fr):=rfl;have g2:(msC m)[0+13]? =some (.int .i64 m.tk):=rfl;have g3:(msC m)[0+14+0]? =some (.int .i64 m.tt):=rfl;have g4:(msC m)[0+14+1]? =some (.int .i64 m.te):=rfl;refine Wp.obind (fldP_ptr _ _ _) (Wp.obind (y5 k2 g1) (Wp.obind (avInt_int _ _) (Wp.lett (y8 fun j10 e10=>?_))))
 have K10:∀b:Bool,(b=true↔(0≤m.fr)∧m.fr<16)→Wp (j10 b h2) fun r H'=>Above H H'∧r.val.scal=true∧r=ARes.ret (.bool (decide (isRf m)))∧H=H:=fun b hb=>by
  rw[e10];refine y8 fun j15 e15=>?_
  have K15:∀b:Bool,(b=true↔((0≤m.fr)∧m.fr<16)∧1≤m.tk)→Wp (j15 b h2) fun r H'=>Above H H'∧r.val.scal=true∧r=ARes.ret (.bool (decide (isRf m)))∧H=H:=fun b hb=>by
   rw[e15];refine y8 fun j20 e20=>?_
   have K20:∀b:Bool,(b=true↔(((0≤m.fr)∧m.fr<16)∧1≤m.tk)∧m.tk≤1048576)→Wp (j20 b h2) fun r H'=>Above H H'∧r.val.scal=true∧r=ARes.ret (.bool (decide (isRf m)))∧H=H:=fun b hb=>by
    rw[e20];refine y8 fun j26 e26=>?_
    have K26:∀b:Bool,(b=true↔((((0≤m.fr)∧m.fr<16)∧1≤m.tk)∧m.tk≤1048576)∧1≤m.tt)→Wp (j26 b h2) fun r H'=>Above H H'∧r.val.scal=true∧r=ARes.ret (.bool (decide (isRf m)))∧H=H:=fun b hb=>by
     rw[e26];refine y8 fun j32 e32=>?_
     have K32:∀b:Bool,(b=true↔(((((0≤m.fr)∧m.fr<16)∧1≤m.tk)∧m.tk≤1048576)∧1≤m.tt)∧m.tt≤1099511627776)→Wp (j32 b h2) fun r H'=>Above H H'∧r.val.scal=true∧r=ARes.ret (.bool (decide (isRf m)))∧H=H:=fun b hb=>by
      rw[e32];refine y8 fun j38 e38=>?_
      have K38:∀b:Bool,(b=true↔((((((0≤m.fr)∧m.fr<16)∧1≤m.tk)∧m.tk≤1048576)∧1≤m.tt)∧m.tt≤1099511627776)∧1≤m.te)→Wp (j38 b h2) fun r H'=>Above H H'∧r.val.scal=true∧r=ARes.ret (.bool (decide (isRf m)))∧H=H:=fun b hb=>by
       rw[e38];refine y8 fun j44 e44=>?_
       have K44:∀b:Bool,(b=true↔(((((((0≤m.fr)∧m.fr<16)∧1≤m.tk)∧m.tk≤1048576)∧1≤m.tt)∧m.tt≤1099511627776)∧1≤m.te)∧m.te≤1048576)→Wp (j44 b h2) fun r H'=>Above H H'∧r.val.scal=true∧r=ARes.ret (.bool (decide (isRf m)))∧H=H:=fun b hb=>by
        rw[e44]
        have:b=decide (isRf m):=by
         cases b with
         |true=>exact(decide_eq_true (hb.1 rfl)).symm
         |false=>exact(decide_eq_false fun h=>nomatch (hb.2 h)).symm
        rw[←this];exact Wp.ret ⟨A,rfl,rfl,rfl⟩
       cases b with
       |false=>exact y7 rfl (K44 false ⟨(fun h=>nomatch h),fun h=>nomatch (hb.2 h.1)⟩)
       |true=>exact yc rfl (Wp.obind (fldP_ptr _ _ _) (Wp.obind (fldP_ptr _ _ _) (Wp.obind (y5 k2 g4) (Wp.obind (avInt_int _ _) (Wp.lett (K44 _ ⟨fun h=>⟨hb.1 rfl,of_decide_eq_true h⟩,fun h=>decide_eq_true h.2⟩))))))
      cases b with
      |false=>exact y7 rfl (K38 false ⟨(fun h=>nomatch h),fun h=>nomatch (hb.2 h.1)⟩)
      |true=>exact yc rfl (Wp.obind (fldP_ptr _ _ _) (Wp.obind (fldP_ptr _ _ _) (Wp.obind (y5 k2 g4) (Wp.obind (avInt_int _ _) (Wp.lett (K38 _ ⟨fun h=>⟨hb.1 rfl,of_decide_eq_true h⟩,fun h=>decide_eq_true h.2⟩))))))
     cases b with
     |false=>exact y7 rfl (K32 false ⟨(fun h=>nomatch h),fun h=>nomatch (hb.2 h.1)⟩)
     |true=>exact yc rfl (Wp.obind (fldP_ptr _ _ _) (Wp.obind (fldP_ptr _ _ _) (Wp.obind (y5 k2 g3) (Wp.obind (avInt_int _ _) (Wp.lett (K32 _ ⟨fun h=>⟨hb.1 rfl,of_decide_eq_true h⟩,fun h=>decide_eq_true h.2⟩))))))
    cases b with
    |false=>exact y7 rfl (K26 false ⟨(fun h=>nomatch h),fun h=>nomatch (hb.2 h.1)⟩)
    |true=>exact yc rfl (Wp.obind (fldP_ptr _ _ _) (Wp.obind (fldP_ptr _ _ _) (Wp.obind (y5 k2 g3) (Wp.obind (avInt_int _ _) (Wp.lett (K26 _ ⟨fun h=>⟨hb.1 rfl,of_decide_eq_true h⟩,fun h=>decide_eq_true h.2⟩))))))
   cases b with
   |false=>exact y7 rfl (K20 false ⟨(fun h=>nomatch h),fun h=>nomatch (hb.2 h.1)⟩)
   |true=>exact yc rfl (Wp.obind (fldP_ptr _ _ _) (Wp.obind (y5 k2 g2) (Wp.obind (avInt_int _ _) (Wp.lett (K20 _ ⟨fun h=>⟨hb.1 rfl,of_decide_eq_true h⟩,fun h=>decide_eq_true h.2⟩)))))
  cases b with
  |false=>exact y7 rfl (K15 false ⟨(fun h=>nomatch h),fun h=>nomatch (hb.2 h.1)⟩)
  |true=>exact yc rfl (Wp.obind (fldP_ptr _ _ _) (Wp.obind (y5 k2 g2) (Wp.obind (avInt_int _ _) (Wp.lett (K15 _ ⟨fun h=>⟨hb.1 rfl,of_decide_eq_true h⟩,fun h=>decide_eq_true h.2⟩)))))
 by_cases c1:m.fr≥0
 ·exact yc (decide_eq_true c1) (Wp.obind (fldP_ptr _ _ _) (Wp.obind (y5 k2 g1) (Wp.obind (avInt_int _ _) (Wp.lett (K10 _ ⟨fun h=>⟨c1,of_decide_eq_true h⟩,fun h=>decide_eq_true h.2⟩)))))
 ·exact y7 (decide_eq_false c1) (K10 false ⟨(fun h=>nomatch h),fun h=>absurd h.1 c1⟩)
end
def xOf(m:Ms):Snd:=⟨m.tk,m.tt,m.te,m.sq,m.da⟩
def SOut(N:Nat)(lo nb:Nat→Prop)(db jb ab:Nat)(s:DS)(L:List Snd)(m a:Ms)(B:Nat)(H H':AHeap)(e:Int):Prop:=
  ∃lo' nb' S s',Less lo lo'∧Tch S H H'∧(∀b∈S,lo b∨nb b∨b=ab)∧(∀b,nb' b→nb b∨H.next≤b)∧(s.p= -1→e=0)∧
  ((e = 0 ∧ ∃ a', Sy N lo' nb' H' db jb s' L (B + 200) ∧ RowH H' ab TMsg (msC a') ∧ a'.kd = a.kd ∧ a'.sq = a.sq ∧ a'.en = a.en ∧ (m.kd = 9 → m.da.length ≤ 64 → m.sq = a.sq + 1 → False)) ∨
   (e=0∧m.kd=9∧∃a',Sy N lo' nb' H' db jb s' (L++[xOf m]) (B+200)∧RowH H' ab TMsg (msC a')∧a'.kd=a.kd∧a'.sq=m.sq∧m.sq=a.sq+1∧a'.er=a.er∧a'.en=a.en)∨
   (e=40∧m.kd=9∧Mid N lo' H' db s' (B+200) L (xOf m)))
theorem refJ_q{A:List Snd}{x:Snd}(h:refJ A x=0):x.q=(lastZ A x.k).q+1:=by
 unfold refJ at h
 split at h
 ·cases h
 ·split at h
  ·cases h
  ·rename_i hq
   simpa using hq
theorem lastZ_snoc(A:List Snd)(x:Snd)(j:Int):lastZ (A++[x]) j=if x.k=j then x else lastZ A j:=by
 unfold lastZ;rw[lastL_snoc]
 split<;>rfl
theorem lastZ_lenG:∀(C A:List Snd),OkJ A C→(∀j,0≤(lastZ A j).q∧(lastZ A j).q≤(A.length:Int))→∀j,0≤(lastZ (A++C) j).q∧(lastZ (A++C) j).q≤((A++C).length:Int)
 |[],A,_,h=>by rw[List.append_nil];exact h
 |x::C,A,ho,h=>by
  have e:A++x::C=(A++[x])++C:=by rw[List.append_assoc];rfl
  rw[e];refine lastZ_lenG C (A++[x]) ho.2.2 fun j=>?_;have hq:=refJ_q ho.2.1;have h1:=h x.k;have h2:=h j;rw[lastZ_snoc,List.length_append,List.length_singleton]
  split<;>omega
theorem lastZ_len{L:List Snd}(h:OkJ [] L)(j:Int):0≤(lastZ L j).q∧(lastZ L j).q≤(L.length:Int):=lastZ_lenG L [] h (fun _=>⟨Int.le_refl 0,Int.le_refl 0⟩) j
theorem bldX(k t e q:Int)(u:Bytes):bldS Pg TTk [(0,.int .i64 k),(1,.agg ([.int .i64 t,.int .i64 e]:List AV)),(2,.int .i64 q),(3,strA u)]=some [.int .i64 k,.int .i64 t,.int .i64 e,.int .i64 q,strA u]:=by kernel_rfl
section
variable {N n d D db jb gb sb ab B:Nat}{lo nb:Nat→Prop}{H H':AHeap}{s:DS}{L:List Snd}{m a:Ms}{Q:ARes→AHeap→Prop}
theorem Sy.mono{B':Nat}(Y:Sy N lo nb H db jb s L B)(h:B≤B'):Sy N lo nb H db jb s L B':=⟨Y.K.mono h,Y.J,Y.sep,Y.fi,Y.ok,Y.hl,Y.hN⟩
theorem Sy.less(Y:Sy N lo nb H db jb s L B)(T:Tch [] H H'):Sy N (shr lo H.next H'.next) nb H' db jb s L B:=
 ⟨Y.K.part T (fun _ h=>nomatch h),Y.J.tch T (fun _ h=>nomatch h),fun b hb=>⟨(Y.sep b hb).1,fun h=>(Y.sep b hb).2.1 h.1,Nat.lt_of_lt_of_le (Y.sep b hb).2.2 T.1⟩,Y.fi,Y.ok,fun b hb=>Y.hl b hb.1,Nat.le_trans Y.hN T.1⟩
theorem Sy.other{S:List Nat}(Y:Sy N lo nb H db jb s L B)(T:Tch S H H')(hS:∀b∈S,¬lo b∧¬nb b):Sy N (shr lo H.next H'.next) nb H' db jb s L B:=
 ⟨Y.K.part T (fun b hb=>.inl (hS b hb).1),Y.J.tch T (fun b hb=>(hS b hb).2),fun b hb=>⟨(Y.sep b hb).1,fun h=>(Y.sep b hb).2.1 h.1,Nat.lt_of_lt_of_le (Y.sep b hb).2.2 T.1⟩,Y.fi,Y.ok,fun b hb=>Y.hl b hb.1,Nat.le_trans Y.hN T.1⟩
theorem shr_less{lo:Nat→Prop}{a b:Nat}:Less lo (shr lo a b):=fun _ h=>h.1
set_option maxHeartbeats 1000000 in
theorem attach_w(Y:Sy N lo nb H db jb s L B)(hk:m.kd≠9)(hen:m.en.one=true)(ka:RowH H ab TMsg (msC a))(hab:ab<H.next)(h1:¬lo ab)(h2:¬nb ab):∃H',world n (d+2) 25 [.ptr gb 0,.agg (msC m),.nilp,.ptr ab 0] H=some (.ret (.int .i64 0),H')∧SOut N lo nb db jb ab s L m a B H H' 0:=by
 suffices hK:Wp (world n (d+2) 25 [.ptr gb 0,.agg (msC m),.nilp,.ptr ab 0] H) fun r H'=>r=.ret (.int .i64 0)∧SOut N lo nb db jb ab s L m a B H H' 0 by
  obtain⟨_,H',e,rfl,k⟩:=hK;exact⟨H',e,k⟩
 rw[w_gateway_Gateway_attach];unfold gateway_Gateway_attach;refine y17 (Mem.nil [] H) (ms_one hen) fun h3 M2=>Wp.callN (end_nil (n:=n) (d:=d)) (Wp.obind (avInt_int _ _) (Wp.obind (nilC_ptr _ _) (Wp.obind (fldP_ptr _ _ _) ?_)));have t2:=M2.tch;have ka2:=ka.tch t2 hab (fun h=>nomatch h);refine Wp.st1 ka2 (show 0+11<22 by decide) rfl fun h4 k4 t4 n4=>?_;have T:Tch [ab] H h4:=(t2.mono fun _ h=>nomatch h).trans t4;exact Wp.ret ⟨rfl,_,nb,[ab],s,shr_less,T,fun b hb=>.inr (.inr (List.mem_singleton.1 hb)),fun b hb=>.inl hb,fun _=>rfl,.inl ⟨rfl,{a with tl:=0},(Y.other T fun b hb=>by rw[List.mem_singleton.1 hb];exact⟨h1,h2⟩).mono (by omega),k4,rfl,rfl,rfl,fun h=>absurd h hk⟩⟩
set_option maxHeartbeats 1000000 in
theorem pull_w(Y:Sy N lo nb H db jb s L B)(hk:m.kd≠9)(hen:m.en.one=true)(ka:RowH H ab TMsg (msC a))(hab:ab<H.next)(h1:¬lo ab)(h2:¬nb ab):∃H',world n (d+2) 27 [.ptr gb 0,.agg (msC m),.nilp,.ptr ab 0] H=some (.ret (.int .i64 0),H')∧SOut N lo nb db jb ab s L m a B H H' 0:=by
 suffices hK:Wp (world n (d+2) 27 [.ptr gb 0,.agg (msC m),.nilp,.ptr ab 0] H) fun r H'=>r=.ret (.int .i64 0)∧SOut N lo nb db jb ab s L m a B H H' 0 by
  obtain⟨_,H',e,rfl,k⟩:=hK;exact⟨H',e,k⟩
 rw[w_gateway_Gateway_pull];unfold gateway_Gateway_pull;refine y17 (Mem.nil [] H) (ms_one hen) fun h3 M2=>Wp.callN (end_nil (n:=n) (d:=d)) (Wp.obind (avInt_int _ _) (Wp.obind (nilC_ptr _ _) (Wp.obind (fldP_ptr _ _ _) ?_)));have t2:=M2.tch;have km2:=M2.at0.1;have lm2:=M2.at0.2.1;have ka2:=ka.tch t2 hab (fun h=>nomatch h);refine Wp.st1 ka2 (show 0+11<22 by decide) rfl fun h4 k4 t4 n4=>?_;have km4:=km2.tch t4 lm2 (fun h=>by have:=List.mem_singleton.1 h;omega);refine Wp.obind (fldP_ptr _ _ _) (Wp.obind (y5 km4 (show (msC m)[0+10]? =some (.int .i64 m.pl) from rfl)) (Wp.obind (avInt_int _ _) (Wp.callN (from_nil (n:=n) (d:=d) _ _) (Wp.obind (extT_0 _ _) (Wp.obind (avStr_str _) (Wp.obind (extT_1 _ _ _) (Wp.obind (avInt_int _ _) (Wp.obind (extT_2 _ _ _ _) (Wp.obind (avInt_int _ _) (Wp.obind (nilC_ptr _ _) (Wp.obind (fldP_ptr _ _ _) (Wp.st1 k4 (show 0+12<22 by decide) rfl fun h5 k5 t5 n5=>Wp.obind (nilC_ptr _ _) (Wp.obind (fldP_ptr _ _ _) (Wp.st1 k5 (show 0+10<22 by decide) rfl fun h6 k6 t6 n6=>Wp.obind (nilC_ptr _ _) (Wp.obind (fldP_ptr _ _ _) (Wp.st1 k6 (show 0+20<22 by decide) rfl fun h7 k7 t7 n7=>?_))))))))))))))));have T:Tch [ab] H h7:=(((t2.mono fun _ h=>nomatch h).trans t4).trans t5).trans (t6.trans t7);exact Wp.ret ⟨rfl,_,nb,[ab],s,shr_less,T,fun b hb=>.inr (.inr (List.mem_singleton.1 hb)),fun b hb=>.inl hb,fun _=>rfl,.inl ⟨rfl,{a with tl:=0,da:=[],pl:=0,er:=1},(Y.other T fun b hb=>by rw[List.mem_singleton.1 hb];exact⟨h1,h2⟩).mono (by omega),k7,rfl,rfl,rfl,fun h=>absurd h hk⟩⟩
set_option maxHeartbeats 2000000 in
theorem send_w(hn:1000000<n)(hB:B<500000)(Y:Sy N lo nb H db jb s L B)(G:RowH H gb TGw [.ptr jb 0,.mp sb,.int .i64 0])(hg:gb<H.next)(hk:m.kd=9)(hen:m.en.one=true)(hd:m.da.length≤1000000000)(hr:isR m)(ka:RowH H ab TMsg (msC a))(hab:ab<H.next)(h1:¬lo ab)(h2:¬nb ab)(hsq:a.sq=(lastZ L m.tk).q)(hL:L.length≤1000)(hf:aboveJ (lastZ L m.tk).t (lastZ L m.tk).e m.tt m.te=false):
  ∃H' e,world n (D+7) 26 [.ptr gb 0,.agg (msC m),.nilp,.ptr ab 0] H=some (.ret (.int .i64 e),H')∧SOut N lo nb db jb ab s L m a B H H' e:=by
 suffices hK:Wp (world n (D+7) 26 [.ptr gb 0,.agg (msC m),.nilp,.ptr ab 0] H) fun r H'=>∃e,r=.ret (.int .i64 e)∧SOut N lo nb db jb ab s L m a B H H' e by
  obtain⟨_,H',w,e,rfl,k⟩:=hK;exact⟨H',e,w,k⟩
 have hqb:=lastZ_bound Y.ok.all m.tk;have hq0:=lastZ_len Y.ok m.tk;rw[w_gateway_Gateway_send];unfold gateway_Gateway_send;refine y17 (Mem.nil [] H) (ms_one hen) fun h3 M2=>?_;have t2:=M2.tch;have km2:=M2.at0.1;have lm2:=M2.at0.2.1;have ka2:=ka.tch t2 hab (fun h=>nomatch h);have ll:=lenS_nat m.da;have g12:(msC m)[0+12]? =some (strA m.da):=rfl;have g13:(msC m)[0+13]? =some (.int .i64 m.tk):=rfl;have g16:(msC m)[0+16]? =some (.int .i64 m.sq):=rfl;have a16:(msC a)[0+16]? =some (.int .i64 a.sq):=rfl;have Y2:=Y.other t2 (fun _ h=>nomatch h)
 -- nothing is taken
 have none:∀(h4:AHeap) (a':Ms),Tch [ab] H h4→RowH h4 ab TMsg (msC a')→a'.kd=a.kd→a'.sq=a.sq→a'.en=a.en→(m.da.length≤64→m.sq=a.sq+1→False)→Wp (some (ARes.ret (.int .i64 0),h4)) fun r H'=>∃e,r=.ret (.int .i64 e)∧SOut N lo nb db jb ab s L m a B H H' e:=fun h4 a' T k4 q1 q2 q3 q4=>
  Wp.ret ⟨0,rfl,_,nb,[ab],s,shr_less,T,fun b hb=>.inr (.inr (List.mem_singleton.1 hb)),fun b hb=>.inl hb,fun _=>rfl,.inl ⟨rfl,a',(Y.other T fun b hb=>by rw[List.mem_singleton.1 hb];exact⟨h1,h2⟩).mono (by omega),k4,q1,q2,q3,fun _=>q4⟩⟩
 have T2:Tch [ab] H h3:=t2.mono fun _ h=>nomatch h;refine Wp.obind (nilC_ptr _ _) (Wp.obind (fldP_ptr _ _ _) (Wp.obind (y5 ka2 a16) (Wp.obind (avInt_int _ _) (Wp.obind (fldP_ptr _ _ _) (Wp.obind (y5 km2 g12) (Wp.obind (avStr_str _) (Wp.lett (y8 fun k16 e16=>?_))))))))
 by_cases h64:m.da.length>64
 ·refine yc (by rw [decide_eq_true_eq]; omega) (Wp.obind (nilC_ptr _ _) (Wp.obind (fldP_ptr _ _ _) (Wp.st1 ka2 (show 0 + 20 < 22 by decide) rfl fun h4 k4 t4 n4 => ?_)))
  rw[e16];exact none h4 {a with er:=3} (T2.trans t4) k4 rfl rfl rfl fun h=>by omega
 refine y7 (by rw[decide_eq_false_iff_not];omega) (Wp.obind (fldP_ptr _ _ _) (Wp.obind (y5 km2 g16) (Wp.obind (avInt_int _ _) (Wp.lett (y8 fun j50 e50=>?_)))))
 have K50:∀b:Bool,(b=true→m.sq≤a.sq)→Wp (j50 b h3) fun r H'=>∃e,r=.ret (.int .i64 e)∧SOut N lo nb db jb ab s L m a B H H' e:=fun b hb=>by
  rw[e50];refine y8 fun k31 e31=>?_
  cases b with
  |true=>
   have hb:=hb rfl;refine yc rfl ?_;rw[e31,e16];exact none h3 a T2 ka2 rfl rfl rfl fun _ h=>by omega
  |false=>
   refine y7 rfl (Wp.obind (fldP_ptr _ _ _) (Wp.obind (y5 km2 g16) (Wp.obind (avInt_int _ _) (ye (by omega) (by omega) (Wp.lett ?_)))))
   by_cases hs1:m.sq=a.sq+1
   case neg=>
    refine yc (bne_t hs1) (Wp.obind (nilC_ptr _ _) (Wp.obind (fldP_ptr _ _ _) (Wp.st1 ka2 (show 0+20<22 by decide) rfl fun h4 k4 t4 n4=>?_)));rw[e31,e16];exact none h4 {a with er:=221} (T2.trans t4) k4 rfl rfl rfl fun _ h=>absurd h hs1
   refine y7 (bne_f hs1) (Wp.obind (fldP_ptr _ _ _) (Wp.obind (y5 km2 g16) (Wp.obind (avInt_int _ _) (Wp.obind (nilC_ptr _ _) (Wp.obind (fldP_ptr _ _ _) (Wp.st1 ka2 (show 0+16<22 by decide) rfl fun h4 k4 t4 n4=>?_))))));have n2:=t2.1;have T4:Tch [ab] H h4:=T2.trans t4;have km4:=km2.tch t4 lm2 (fun h=>by have:=List.mem_singleton.1 h;omega);have Y4:=Y.other T4 fun b hb=>by rw[List.mem_singleton.1 hb];exact⟨h1,h2⟩
   have G4:=G.tch T4 hg (fun h=>by
    have:=List.mem_singleton.1 h;subst this;exact y3a G ka (by decide) rfl)
   have hc:checkJ (xOf m)=0:=by
    unfold checkJ;rw[if_pos (show numsOk (xOf m) from ⟨hr.1,hr.2.1,hr.2.2,by show 1≤m.sq∧m.sq≤1048576;omega⟩),if_neg (show ¬(xOf m).s.length>64 from h64)]
   have hrf:refJ L (xOf m)=0:=by
    have e:refJ L (xOf m)=if aboveJ (lastZ L m.tk).t (lastZ L m.tk).e m.tt m.te=true then 220 else if m.sq≠(lastZ L m.tk).q+1 then 221 else 0:=rfl
    rw[e,if_neg (show ¬aboveJ (lastZ L m.tk).t (lastZ L m.tk).e m.tt m.te=true by rw[hf];decide),if_neg (show ¬m.sq≠(lastZ L m.tk).q+1 by omega)]
   obtain⟨lo5,nb5,h5,S5,e,s5,e5,L5,t5,hS5,hnb5,hok,hcase⟩:=Y4.add (n:=n) (D:=D) (d:=0) hn hB (xOf m) (by show m.da.length≤_;omega);have e5:world n (D+6) 40 [.ptr jb 0,.agg (sndC (xOf m))] h4=some (.ret (.int .i64 e),h5):=(wL_b 40).symm.trans e5;obtain⟨he,hp⟩:=hok hc hrf;have hab4:ab<h4.next:=by omega
   have nl5:ab ∉ S5:=fun h=>(hS5 ab h).elim (fun h=>h1 h.1) h2;have k5:=k4.tch t5 hab4 nl5;have T5:Tch (ab::S5) H h5:=(T4.mono fun b hb=>.inl (by rw[List.mem_singleton.1 hb];exact List.mem_cons_self ..)).trans (t5.mono fun b hb=>.inl (List.mem_cons_of_mem _ hb))
   have hS:∀b∈ab::S5,lo b∨nb b∨b=ab:=fun b hb=>by
    rcases List.mem_cons.1 hb with rfl|hb
    ·exact .inr (.inr rfl)
    ·exact(hS5 b hb).imp (fun h=>h.1) .inl
   have hN5:∀b,nb5 b→nb b∨H.next≤b:=fun b hb=>(hnb5 b hb).imp id fun h=>by omega
   have hLe:Less lo lo5:=fun b hb=>(L5 b hb).1;have gtk:ldRow h4 2 (.ptr H.next (0+14))=some [.int .i64 m.tt,.int .i64 m.te]:=km4.ld (o:=0+14) (n:=2) (show 0+14+2≤22 by decide);refine Wp.obind (nilC_ptr _ _) (Wp.obind (fldP_ptr _ _ _) (Wp.obind (y5 G4 rfl) (Wp.obind (fldP_ptr _ _ _) (Wp.obind (y5 km4 g13) (Wp.obind (avInt_int _ _) (Wp.obind (fldP_ptr _ _ _) (Wp.obind gtk (Wp.obind (fldP_ptr _ _ _) (Wp.obind (y5 km4 g16) (Wp.obind (avInt_int _ _) (Wp.obind (fldP_ptr _ _ _) (Wp.obind (y5 km4 g12) (Wp.obind (avStr_str _) (Wp.obind (bldX _ _ _ _ _) (Wp.callN e5 (Wp.obind (avInt_int _ _) (Wp.ret (⟨e,rfl,lo5,nb5,ab::S5,s5,hLe,T5,hS,hN5,hp,?_⟩))))))))))))))))))
   rcases hcase with⟨c1,c2,_⟩|⟨c1,Y5⟩|⟨c1,Y5⟩
   ·rcases he with h | h
    ·exact absurd h c1
    ·exact absurd h c2
   ·exact .inr (.inl ⟨c1,hk,{a with sq:=m.sq},Y5,k5,rfl,rfl,hs1,rfl,rfl⟩)
   ·exact .inr (.inr ⟨c1,hk,Y5⟩)
 by_cases c1:m.sq≥1
 ·refine yc (decide_eq_true c1) (Wp.obind (fldP_ptr _ _ _) (Wp.obind (y5 km2 g16) (Wp.obind (avInt_int _ _) (Wp.lett (K50 _ fun h => ?_)))))
  rw[decide_eq_true_eq] at h;exact h
 ·exact y7 (decide_eq_false c1) (K50 false (fun h=>nomatch h))
end
structure Gs (N:Nat) (lo nb:Nat→Prop) (H:AHeap) (db jb gb sb:Nat) (sl:List (Int×Int×Int)) (s:DS) (L:List Snd) (B:Nat):Prop where
 Y:Sy N lo nb H db jb s L B
 row:RowH H gb TGw [.ptr jb 0,.mp sb,.int .i64 0]
 mp:H.get sb=some (.map (fnE sl))
 hg:gb<H.next
 hs:sb<H.next
 gN:N≤gb
 sN:N≤sb
 gl:¬lo gb
 sl':¬lo sb
 gn:¬nb gb
 sn:¬nb sb
theorem bldMs(k f t c e q:Int)(tk:Int):bldS Pg TMsg [(0,.int .u8 k),(1,.int .i64 f),(2,.int .i64 t),(13,.int .i64 tk),(14,.agg ([.int .i64 c,.int .i64 e]:List AV)),(15,.int .i64 q)]=some (msC ⟨k,f,t,0,0,0,0,0,false,.nsl,0,0,[],tk,c,e,q,0,0,0,0,0⟩):=by kernel_rfl
theorem dynG25(call:CallF)(gb ab:Nat)(l:List AV)(h:AHeap):dynC Pg call (AV.fn 25 [.ptr gb 0] []) [.agg l,.nilp,.ptr ab 0] h=call 25 [.ptr gb 0,.agg l,.nilp,.ptr ab 0] h:=by
 have e:callV Pg h [.agg l,.nilp,.ptr ab 0] (some (AV.fn 25 [.ptr gb 0] []))=some (.call 25 [.ptr gb 0,.agg l,.nilp,.ptr ab 0],h):=by kernel_rfl
 unfold dynC;rw[e]
theorem dynG26(call:CallF)(gb ab:Nat)(l:List AV)(h:AHeap):dynC Pg call (AV.fn 26 [.ptr gb 0] []) [.agg l,.nilp,.ptr ab 0] h=call 26 [.ptr gb 0,.agg l,.nilp,.ptr ab 0] h:=by
 have e:callV Pg h [.agg l,.nilp,.ptr ab 0] (some (AV.fn 26 [.ptr gb 0] []))=some (.call 26 [.ptr gb 0,.agg l,.nilp,.ptr ab 0],h):=by kernel_rfl
 unfold dynC;rw[e]
theorem dynG27(call:CallF)(gb ab:Nat)(l:List AV)(h:AHeap):dynC Pg call (AV.fn 27 [.ptr gb 0] []) [.agg l,.nilp,.ptr ab 0] h=call 27 [.ptr gb 0,.agg l,.nilp,.ptr ab 0] h:=by
 have e:callV Pg h [.agg l,.nilp,.ptr ab 0] (some (AV.fn 27 [.ptr gb 0] []))=some (.call 27 [.ptr gb 0,.agg l,.nilp,.ptr ab 0],h):=by kernel_rfl
 unfold dynC;rw[e]
def AOut(N:Nat)(lo nb:Nat→Prop)(db jb gb sb:Nat)(sl:List (Int×Int×Int))(s:DS)(L:List Snd)(m a:Ms)(B:Nat)(H H':AHeap)(e:Int):Prop:=
  a.en=.nsl∧(e=0→a.kd=IntKind.u8.wrap (m.kd+1))∧(s.p= -1→e=0)∧
  ∃lo' nb' S s',Less lo lo'∧Tch S H H'∧(∀b∈S,lo b∨nb b∨b=gb∨b=sb)∧(∀b,nb' b→nb b∨H.next≤b)∧
  ((e = 0 ∧ (∃ sl', Gs N lo' nb' H' db jb gb sb sl' s' L (B + 200)) ∧ a.sq = (lastZ L m.tk).q ∧ (a.er = 0 → aboveJ (lastZ L m.tk).t (lastZ L m.tk).e m.tt m.te = false) ∧ (aboveJ (lastZ L m.tk).t (lastZ L m.tk).e m.tt m.te = true → a.er = 220) ∧ (m.kd = 9 → sl = [] → L = [] → isR m → m.da.length ≤ 64 → m.sq = (lastZ L m.tk).q + 1 → False)) ∨
   (e=0∧m.kd=9∧(∃sl',Gs N lo' nb' H' db jb gb sb sl' s' (L++[xOf m]) (B+200))∧a.sq=m.sq∧m.sq=(lastZ L m.tk).q+1∧a.er=0∧aboveJ (lastZ L m.tk).t (lastZ L m.tk).e m.tt m.te=false)∨
   (e=40∧m.kd=9∧Mid N lo' H' db s' (B+200) L (xOf m)))
section
variable {N n d D db jb gb sb ab B:Nat}{lo nb:Nat→Prop}{H H':AHeap}{s:DS}{L:List Snd}{m a:Ms}{sl:List (Int×Int×Int)}{fv:AV}{Q:ARes→AHeap→Prop}
set_option maxHeartbeats 4000000 in
theorem fenced_w(G:Gs N lo nb H db jb gb sb sl s L B)(hen:m.en.one=true)(hdo:∀(H1:AHeap) (lo1:Nat→Prop) (ab:Nat) (a:Ms),Sy N lo1 nb H1 db jb s L B→RowH H1 gb TGw [.ptr jb 0,.mp sb,.int .i64 0]→gb<H1.next→¬lo1 gb→RowH H1 ab TMsg (msC a)→ab<H1.next→¬lo1 ab→¬nb ab→a.sq=(lastZ L m.tk).q→aboveJ (lastZ L m.tk).t (lastZ L m.tk).e m.tt m.te=false→∃H2 e,dynC Pg (world n (D+7)) fv [.agg (msC m),.nilp,.ptr ab 0] H1=some (.ret (.int .i64 e),H2)∧SOut N lo1 nb db jb ab s L m a B H1 H2 e):
  ∃H' e a,world n (D+8) 24 [.ptr gb 0,.agg (msC m),.nilp,fv] H=some (.ret (.tup [.agg (msC a),.int .i64 e]),H')∧AOut N lo nb db jb gb sb sl s L m a B H H' e:=by
 suffices hK:Wp (world n (D+8) 24 [.ptr gb 0,.agg (msC m),.nilp,fv] H) fun r H'=>∃e a,r=.ret (.tup [.agg (msC a),.int .i64 e])∧AOut N lo nb db jb gb sb sl s L m a B H H' e by
  obtain⟨_,H',w,e,a,rfl,k⟩:=hK;exact⟨H',e,a,w,k⟩
 have Y:=G.Y;have hqb:=lastZ_bound Y.ok.all m.tk;rw[w_gateway_Gateway_fenced];unfold gateway_Gateway_fenced;refine y17 (Mem.nil [] H) (ms_one hen) fun h1 M1=>y11 M1 fun h2 M2=>?_;have t2:=M2.tch;have n2:=t2.1;have n1:=M1.tch.1;have km2:=M2.at1.1;have lm2:=M2.at1.2.1;have kr2:=M2.at0.1;have lr2:=M2.at0.2.1;have hgne:gb≠sb:=y3b G.row G.mp;have hg:=G.hg;have hs:=G.hs;have G2:=G.row.tch t2 hg (fun h=>nomatch h);have m2:h2.get sb=some (.map (fnE sl)):=(t2.2.2 sb hs (fun h=>nomatch h)).trans G.mp;have g0:(msC m)[0+0]? =some (.int .u8 m.kd):=rfl;have g1:(msC m)[0+1]? =some (.int .i64 m.fr):=rfl;have g13:(msC m)[0+13]? =some (.int .i64 m.tk):=rfl;have gtk:∀{h:AHeap},RowH h H.next TMsg (msC m)→ldRow h 2 (.ptr H.next (0+14))=some [.int .i64 m.tt,.int .i64 m.te]:=fun k=>k.ld (o:=0+14) (n:=2) (show 0+14+2≤22 by decide);obtain⟨h3,x,y,e3,t3,hz,hxy⟩:=right_w (n:=n) (d:=D+5) (k:=m.tk) (Y.J.tch t2 (fun _ h=>nomatch h)) G2 (by omega) m2 (by omega) hqb;have n3:=t3.1;refine Wp.obind (fldP_ptr _ _ _) (Wp.obind (y5 km2 g13) (Wp.obind (avInt_int _ _) (Wp.callN e3 (Wp.obind (extT_0 _ _) (Wp.obind (avAgg_agg _) (Wp.obind (extT_1 _ _ _) (Wp.obind (avInt_int _ _) (y11 (Mem.nil [] h3) fun h4 M4=>?_))))))));rw[newP_eq h3];refine y1a M4 rfl rfl rfl fun h5 M5=>?_;have t5:=M5.tch;have n5:=t5.1;have kf5:=M5.at0.1;have lf5:=M5.at0.2.1;have t25:=t3.trans t5;have km5:=km2.tch t25 lm2 (fun h=>nomatch h);have kr5:=kr2.tch t25 lr2 (fun h=>nomatch h);refine Wp.obind (fldP_ptr _ _ _) (Wp.obind (y5 km5 g0) (Wp.obind (avInt_int _ _) (Wp.lett (Wp.obind (fldP_ptr _ _ _) (Wp.obind (y5 km5 g1) (Wp.obind (avInt_int _ _) (Wp.obind (fldP_ptr _ _ _) (Wp.obind (y5 km5 g13) (Wp.obind (avInt_int _ _) (Wp.obind (fldP_ptr _ _ _) (Wp.obind (gtk km5) (Wp.obind (bldMs _ _ _ _ _ _ _) (y11 (Mem.nil [] h5) fun h6 M6=>?_)))))))))))));rw[newP_eq h5];obtain⟨a0,ha0⟩:∃a0:Ms,a0=⟨IntKind.u8.wrap (m.kd+1),3,m.fr,0,0,0,0,0,false,.nsl,0,0,[],m.tk,m.tt,m.te,(lastZ L m.tk).q,0,0,0,0,0⟩:=⟨_,rfl⟩;rw[←ha0];have a0e:a0.en=.nsl:=by rw[ha0]
 have a0k:a0.kd=IntKind.u8.wrap (m.kd+1):=by rw[ha0]
 have a0s:a0.sq=(lastZ L m.tk).q:=by rw[ha0]
 have a0r:a0.er=0:=by rw[ha0]
 refine y1a M6 rfl rfl (ms_one (by rw[a0e];rfl)) fun h7 M7=>?_;have t7:=M7.tch;have n7:=t7.1;have ka7:=M7.at0.1;have la7:=M7.at0.2.1;have t27:=t25.trans t7;have T7:=t2.trans t27;have km7:=km5.tch t7 (by omega) (fun h=>nomatch h);have kr7:=kr5.tch t7 (by omega) (fun h=>nomatch h);have kf7:=kf5.tch t7 lf5 (fun h=>nomatch h);refine Wp.obind (kf7.ldAll rfl) (Wp.obind (fldP_ptr _ _ _) (Wp.obind (gtk km7) (Wp.callN (above_w (n:=n) (d:=D+6) _ _ _ _) (Wp.obind (avBool_bool _) ?_))));have Y7:=Y.other T7 (fun _ h=>nomatch h);have row7:=G.row.tch T7 hg (fun h=>nomatch h);have mp7:h7.get sb=some (.map (fnE sl)):=(T7.2.2 sb hs (fun h=>nomatch h)).trans G.mp;rw[newP_eq h1];cases hab:aboveJ x y m.tt m.te with
 |true=>
  refine yc rfl (Wp.obind (kf7.ldAll rfl) (y43 ka7 rfl (show 14+2≤22 by decide) rfl fun h8 k8 t8 n8=>Wp.st1 k8 (show 20<22 by decide) rfl fun h9 k9 t9 n9=>Wp.obind (k9.ldAll rfl) ?_));obtain⟨a1,ha1⟩:∃a1:Ms,a1={a0 with tt:=x,te:=y,er:=220}:=⟨_,rfl⟩;have e1:(laid (msC a0) 14 [AV.int .i64 x,AV.int .i64 y]).set 20 (AV.int .i64 220)=msC a1:=by rw[ha1];rfl
  rw[e1];have kr9:=(kr7.tch t8 (by omega) (fun h=>by have:=List.mem_singleton.1 h;omega)).tch t9 (by omega) (fun h=>by have:=List.mem_singleton.1 h;omega);have t79:Tch [h5.next] h7 h9:=t8.trans t9;have T9:Tch [] H h9:=T7.trans' t79 fun b hb=>.inr (by rw[List.mem_singleton.1 hb];omega);have a1one:(msC a1).all AV.one=true:=ms_one (by rw[ha1];show a0.en.one=true;rw[a0e];rfl);refine Wp.stAll kr9 rfl rfl a1one fun h10 k10 t10 n10=>Wp.obind (k10.ldAll rfl) ?_;have T10:Tch [] H h10:=T9.trans' t10 fun b hb=>.inr (by rw[List.mem_singleton.1 hb];omega);have Y10:=Y.other T10 (fun _ h=>nomatch h);refine Wp.ret ⟨0,a1,rfl,by rw[ha1];exact a0e,fun _=>by rw[ha1];exact a0k,fun _=>rfl,_,nb,[],s,shr_less,T10,(fun _ h=>nomatch h),fun b hb=>.inl hb,.inl ⟨rfl,⟨sl,Y10.mono (by omega),G.row.tch T10 hg (fun h=>nomatch h),(T10.2.2 sb hs (fun h=>nomatch h)).trans G.mp,Nat.lt_of_lt_of_le hg T10.1,Nat.lt_of_lt_of_le hs T10.1,G.gN,G.sN,fun h=>G.gl h.1,fun h=>G.sl' h.1,G.gn,G.sn⟩,by rw[ha1];exact a0s,fun h=>?_,fun _=>by rw[ha1],fun _ hsl hl0 hir _ _=>?_⟩⟩
  ·rw [ha1] at h
   cases h
  ·obtain ⟨rfl, rfl⟩ := hz hsl hl0
   unfold aboveJ at hab;have:=hir.2.1.1;rw[if_pos (by omega),decide_eq_false (by omega)] at hab;cases hab
 |false=>
  have hf:=hxy _ _ hab;obtain⟨h8,e,e8,lo8,nb8,S8,s8,L8,t8,hS8,hnb8,hp8,hcase⟩:=hdo h7 _ h5.next a0 Y7 row7 (by omega) (fun h=>G.gl h.1) ka7 la7 (fun h=>by rcases h.2 with h|h<;>omega) (fun h=>by have:=(Y.sep _ h).2.2;omega) a0s hf;have n8:=t8.1;have hS8':∀b∈S8,b<H.next→lo b∨nb b:=fun b hb hlt=>(hS8 b hb).elim (fun h=>.inl h.1) fun h=>h.elim .inr fun h=>by omega
  have gb8:gb ∉ S8:=fun h=>(hS8' gb h hg).elim G.gl G.gn;have sb8:sb ∉ S8:=fun h=>(hS8' sb h hs).elim G.sl' G.sn
  have nS8:∀b,H.next≤b→b<h7.next→b≠h5.next→b ∉ S8:=fun b h1 h2 h3 h=>by
   rcases hS8 b h with h|h|h
   ·rcases h.2 with h|h<;>omega
   ·have := (Y.sep b h).2.2
    omega
   ·exact h3 h
  have row8:=row7.tch t8 (by omega) gb8;have mp8:h8.get sb=some (.map (fnE sl)):=(t8.2.2 sb (by omega) sb8).trans mp7;have km8:=km7.tch t8 (by omega) (nS8 _ (Nat.le_refl _) (by omega) (by omega));have kr8:=kr7.tch t8 (by omega) (nS8 _ n1 (by omega) (by omega));refine y7 rfl (Wp.obind (km7.ldAll rfl) (Wp.callN e8 (Wp.obind (avInt_int _ _) (Wp.lett ?_))));have hnb':∀b,nb8 b→nb b∨H.next≤b:=fun b hb=>(hnb8 b hb).imp id fun h=>by omega
  have hle:Less lo lo8:=fun b hb=>(L8 b hb).1
  have Tall:∀(h9:AHeap) (S9:List Nat),Tch S9 h8 h9→(∀b∈S9,b=gb∨b=sb∨H.next≤b)→Tch (S8.filter (fun b=>decide (b<H.next))++[gb,sb]) H h9:=fun h9 S9 t9 hS9=>by
   refine⟨by have:=t9.1;omega,by rw[t9.2.1,t8.2.1,T7.2.1],fun b hb hbS=>?_⟩;have b8:b ∉ S8:=fun h=>hbS (List.mem_append_left _ (List.mem_filter.2 ⟨h,decide_eq_true hb⟩))
   have b9:b ∉ S9:=fun h=>by
    rcases hS9 b h with h|h|h
    ·exact hbS (List.mem_append_right _ (by rw[h];exact List.mem_cons_self ..))
    ·exact hbS (List.mem_append_right _ (by rw[h];exact List.mem_cons_of_mem _ (List.mem_cons_self ..)))
    ·omega
   rw[t9.2.2 b (by omega) b9,t8.2.2 b (by omega) b8,T7.2.2 b hb (fun h=>nomatch h)]
  have hSall:∀b∈S8.filter (fun b=>decide (b<H.next))++[gb,sb],lo b∨nb b∨b=gb∨b=sb:=fun b hb=>by
   rcases List.mem_append.1 hb with hb|hb
   ·obtain ⟨h1, h2⟩ := List.mem_filter.1 hb
    exact(hS8' b h1 (of_decide_eq_true h2)).imp id .inl
   ·rcases List.mem_cons.1 hb with h | h
    ·exact .inr (.inr (.inl h))
    ·exact .inr (.inr (.inr (List.mem_singleton.1 h)))
  have fin:∀(L':List Snd) (a':Ms),e=0→Sy N lo8 nb8 h8 db jb s8 L' (B+200)→RowH h8 h5.next TMsg (msC a')→a'.en=a0.en→(∀(h12:AHeap) (sl':List (Int×Int×Int)) (lo12:Nat→Prop),Less lo lo12→Gs N lo12 nb8 h12 db jb gb sb sl' s8 L' (B+200)→Tch (S8.filter (fun b=>decide (b<H.next))++[gb,sb]) H h12→AOut N lo nb db jb gb sb sl s L m a' B H h12 0)→Wp (Abs.obind (nilC (.ptr gb 0)) fun t53=>Abs.obind (fldP 1 t53) fun t54=>Abs.obind (ldCell h8 t54) fun v55=>Abs.obind (fldP 13 (.ptr H.next 0)) fun t56=>Abs.obind (ldCell h8 t56) fun v57=>Abs.obind (avInt .i64 v57) fun t57=>Abs.obind (fldP 14 (.ptr H.next 0)) fun t58=>Abs.obind (ldRow h8 2 t58) fun t59=>effK (opMapUpdate Pg h8 TSn (some v55) (some (.int .i64 t57)) (some (.agg t59))) fun h_84=>Abs.obind (ldRow h_84 22 (.ptr h5.next 0)) fun t60=>Abs.obind (stRow h_84 22 t60 (.ptr h1.next 0)) fun h_88=>Abs.obind (ldRow h_88 22 (.ptr h1.next 0)) fun w8_91=>some (.ret (.tup [.agg w8_91,.int .i64 0]),h_88)) fun r H'=>∃e a,r=.ret (.tup [.agg (msC a),.int .i64 e])∧AOut N lo nb db jb gb sb sl s L m a B H H' e:=fun L' a' he Y8 ka8 hen' hout=>by
   obtain⟨sl',ep⟩:=putSn m.tk m.tt m.te mp8;have tp:Tch [sb] h8 (h8.put sb (.map (fnE sl'))):=Tch.put (.inl (List.mem_singleton.2 rfl)) _;have ka9:=ka8.tch tp (by omega) (fun h=>by have:=List.mem_singleton.1 h;omega);have kr9:=kr8.tch tp (by omega) (fun h=>by have:=List.mem_singleton.1 h;omega);refine Wp.obind (nilC_ptr _ _) (Wp.obind (fldP_ptr _ _ _) (Wp.obind (y5 row8 rfl) (Wp.obind (fldP_ptr _ _ _) (Wp.obind (y5 km8 g13) (Wp.obind (avInt_int _ _) (Wp.obind (fldP_ptr _ _ _) (Wp.obind (gtk km8) (Wp.effK ep (Wp.obind (ka9.ldAll rfl) (Wp.stAll kr9 rfl rfl (ms_one (by rw[hen',a0e];rfl)) fun h12 k12 t12 n12=>Wp.obind (k12.ldAll rfl) ?_))))))))));have nx9:(h8.put sb (.map (fnE sl'))).next=h8.next:=rfl;have t812:Tch [sb,h1.next] h8 h12:=(tp.mono fun b hb=>.inl (by rw[List.mem_singleton.1 hb];exact List.mem_cons_self ..)).trans (t12.mono fun b hb=>.inl (List.mem_cons_of_mem _ hb))
   have hq:∀b∈[sb,h1.next],¬lo8 b∧¬nb8 b:=fun b hb=>by
    rcases List.mem_cons.1 hb with rfl|hb
    ·exact⟨fun h=>G.sl' (hle _ h),fun h=>(hnb' _ h).elim G.sn fun h=>by omega⟩
    ·rw [List.mem_singleton.1 hb]
     exact⟨fun h=>by rcases(L8 _ h).2 with h|h<;>omega,fun h=>by
      rcases hnb8 _ h with h|h
      ·have := (Y.sep _ h).2.2
       omega
      ·omega⟩
   have Y12:=Y8.other t812 hq;have gq:¬lo8 gb∧¬nb8 gb:=⟨fun h=>G.gl (hle _ h),fun h=>(hnb' _ h).elim G.gn fun h=>by omega⟩;have sq:=hq sb (List.mem_cons_self ..);refine Wp.ret ⟨0,a',rfl,hout h12 sl' _ (fun b hb=>hle b hb.1) ⟨Y12,row8.tch t812 (by omega) (fun h=>?_),?_,by omega,by omega,G.gN,G.sN,fun h=>gq.1 h.1,fun h=>sq.1 h.1,gq.2,sq.2⟩ (Tall _ _ t812 fun b hb=>?_)⟩
   ·rcases List.mem_cons.1 h with h | h
    ·exact hgne h
    ·have := List.mem_singleton.1 h
     omega
   ·rw [t12.2.2 sb (by omega) (fun h => by have := List.mem_singleton.1 h; omega)]
    exact get_put_same _ _
   ·rcases List.mem_cons.1 hb with rfl | hb
    ·exact .inr (.inl rfl)
    ·rw [List.mem_singleton.1 hb]
     exact .inr (.inr n1)
  rcases hcase with⟨he,a',Y8,ka8,c1,c2,c3,c4⟩|⟨he,hk9,a',Y8,ka8,c1,c2,c3,c4,c5⟩|⟨he,hk9,M8⟩
  ·refine y7 (bne_f he) (fin L a' he Y8 ka8 c3 fun h12 sl' lo12 hl G12 T12 => ⟨c3.trans a0e, fun _ => c1.trans a0k, fun _ => rfl, lo12, nb8, _, s8, hl, T12, hSall, hnb', .inl ⟨rfl, ⟨sl', G12⟩, c2.trans a0s, fun _ => hf, fun h => ?_, fun h9 _ _ _ h64 hq => c4 h9 h64 (by rw [a0s]; exact hq)⟩⟩)
   rw[hf] at h;cases h
  ·refine y7 (bne_f he) (fin _ a' he Y8 ka8 c5 fun h12 sl' lo12 hl G12 T12=>⟨c5.trans a0e,fun _=>c1.trans a0k,fun _=>rfl,lo12,nb8,_,s8,hl,T12,hSall,hnb',.inr (.inl ⟨rfl,hk9,⟨sl',G12⟩,c2,by rw[←a0s];exact c3,c4.trans a0r,hf⟩)⟩)
  ·subst he
   refine yc rfl (Wp.obind (nilC_ptr _ _) (Wp.obind (fldP_ptr _ _ _) (Wp.st1 row8 (show 0+2<3 by decide) rfl fun h9 k9 t9 n9=>?_)));have kr9:=kr8.tch t9 (by omega) (fun h=>by have:=List.mem_singleton.1 h;omega);refine Wp.stAll kr9 rfl rfl rfl fun h10 k10 t10 n10=>Wp.obind (k10.ldAll rfl) ?_;have t810:Tch [gb,h1.next] h8 h10:=(t9.mono fun b hb=>.inl (by rw[List.mem_singleton.1 hb];exact List.mem_cons_self ..)).trans (t10.mono fun b hb=>.inl (List.mem_cons_of_mem _ hb));refine Wp.ret ⟨40,m0,rfl,rfl,(fun h=>nomatch h),fun h=>hp8 h,_,nb8,_,s8,fun b hb=>hle b hb.1,Tall _ _ t810 fun b hb=>?_,hSall,hnb',.inr (.inr ⟨rfl,hk9,⟨M8.K.part t810 fun b hb=>.inl fun h=>?_,M8.tj,M8.ok,M8.c,M8.r,fun b hb=>M8.hl b hb.1,Nat.le_trans M8.hN t810.1⟩⟩)⟩
   ·rcases List.mem_cons.1 hb with rfl | hb
    ·exact .inl rfl
    ·rw [List.mem_singleton.1 hb]
     exact .inr (.inr n1)
   ·rcases List.mem_cons.1 hb with rfl | hb
    ·exact G.gl (hle _ h)
    ·rw [List.mem_singleton.1 hb] at h
     rcases(L8 _ h).2 with h|h<;>omega
end
section
variable {N n d D db jb gb sb ab rb B:Nat}{lo nb:Nat→Prop}{H h4 h5 h6 H':AHeap}{s:DS}{L:List Snd}{m a:Ms}{sl:List (Int×Int×Int)}{e:Int}{Q:ARes→AHeap→Prop}
theorem Gs.other{S:List Nat}(G:Gs N lo nb H db jb gb sb sl s L B)(T:Tch S H H')(hS:∀b∈S,¬lo b∧¬nb b∧b≠gb∧b≠sb):Gs N (shr lo H.next H'.next) nb H' db jb gb sb sl s L B:=
 ⟨G.Y.other T (fun b hb=>⟨(hS b hb).1,(hS b hb).2.1⟩),G.row.tch T G.hg (fun h=>(hS _ h).2.2.1 rfl),(T.2.2 sb G.hs (fun h=>(hS _ h).2.2.2 rfl)).trans G.mp,Nat.lt_of_lt_of_le G.hg T.1,Nat.lt_of_lt_of_le G.hs T.1,G.gN,G.sN,fun h=>G.gl h.1,fun h=>G.sl' h.1,G.gn,G.sn⟩
theorem Gs.mono{B':Nat}(G:Gs N lo nb H db jb gb sb sl s L B)(h:B≤B'):Gs N lo nb H db jb gb sb sl s L B':=⟨G.Y.mono h,G.row,G.mp,G.hg,G.hs,G.gN,G.sN,G.gl,G.sl',G.gn,G.sn⟩
theorem Mid.other{S:List Nat}{x:Snd}(Y:Mid N lo H db s B L x)(T:Tch S H H')(hS:∀b∈S,¬lo b):Mid N (shr lo H.next H'.next) H' db s B L x:=
 ⟨Y.K.part T (fun b hb=>.inl (hS b hb)),Y.tj,Y.ok,Y.c,Y.r,fun b hb=>Y.hl b hb.1,Nat.le_trans Y.hN T.1⟩
theorem AOut.wrap(hnb:∀b,nb b→b<H.next)(hg:gb<H.next)(hs:sb<H.next)(T:Tch [] H h4)(h:AOut N (shr lo H.next h4.next) nb db jb gb sb sl s L m a B h4 h5 e)(r1:H.next≤rb)(r2:rb<h4.next)(t:Tch [rb] h5 h6):AOut N lo nb db jb gb sb sl s L m a B H h6 e:=by
 obtain⟨a1,a2,a3,lo',nb',S,s',hle,T5,hS,hn',hc⟩:=h
 have q:∀b∈[rb],¬lo' b∧¬nb' b∧b≠gb∧b≠sb:=fun b hb=>by
  rw[List.mem_singleton.1 hb];refine⟨fun h=>by rcases(hle _ h).2 with h|h<;>omega,fun h=>?_,by omega,by omega⟩
  rcases hn' _ h with h|h
  ·have := hnb _ h
   omega
  ·omega
 have n4:=T.1;have n5:=T5.1;refine⟨a1,a2,a3,shr lo' h5.next h6.next,nb',S.filter (fun b=>decide (b<H.next)),s',fun b hb=>(hle b hb.1).1,⟨by have:=t.1;omega,by rw[t.2.1,T5.2.1,T.2.1],fun b hb hbS=>?_⟩,fun b hb=>?_,fun b hb=>(hn' b hb).imp id fun h=>by omega,?_⟩
 ·rw[t.2.2 b (by omega) (fun h=>by have:=List.mem_singleton.1 h;omega),T5.2.2 b (by omega) (fun h=>hbS (List.mem_filter.2 ⟨h,decide_eq_true hb⟩)),T.2.2 b hb (fun h=>nomatch h)]
 ·exact(hS b (List.mem_filter.1 hb).1).imp (fun h=>h.1) id
 ·rcases hc with ⟨c1, ⟨sl', G⟩, c2⟩ | ⟨c1, c2, ⟨sl', G⟩, c3⟩ | ⟨c1, c2, M⟩
  ·exact .inl ⟨c1,⟨sl',G.other t q⟩,c2⟩
  ·exact .inr (.inl ⟨c1,c2,⟨sl',G.other t q⟩,c3⟩)
  ·exact .inr (.inr ⟨c1,c2,M.other t fun b hb=>(q b hb).1⟩)
def QOut(N:Nat)(lo nb:Nat→Prop)(db jb gb sb:Nat)(sl:List (Int×Int×Int))(s:DS)(L:List Snd)(m a:Ms)(B:Nat)(H H':AHeap)(e:Int):Prop:=
 AOut N lo nb db jb gb sb sl s L m a B H H' e∨(a=m0∧e=2∧Gs N (shr lo H.next H'.next) nb H' db jb gb sb sl s L B∧Tch [] H H')
set_option maxHeartbeats 2000000 in
theorem Gs.ask(G:Gs N lo nb H db jb gb sb sl s L B)(hn:1000000<n)(hB:B<400000)(hen:m.en.one=true)(hd:m.da.length≤1000000000)(hL:L.length≤1000){c:Bool}(hc:∀H,world n (D+8) 23 [.agg (msC m)] H=some (.ret (.bool c),H))(hr:c=true→isR m):
  ∃H' e a,wL n (D+9) (d+1) false 8 [.ptr gb 0,.agg (msC m),.nilp] H=some (.ret (.tup [.agg (msC a),.int .i64 e]),H')∧QOut N lo nb db jb gb sb sl s L m a B H H' e∧(c=true→m.kd=9→AOut N lo nb db jb gb sb sl s L m a B H H' e):=by
 suffices hK:Wp (world n (D+9) 8 [.ptr gb 0,.agg (msC m),.nilp] H) fun r H'=>∃e a,r=.ret (.tup [.agg (msC a),.int .i64 e])∧QOut N lo nb db jb gb sb sl s L m a B H H' e∧(c=true→m.kd=9→AOut N lo nb db jb gb sb sl s L m a B H H' e) by
  obtain⟨_,H',w,e,a,rfl,k⟩:=hK;exact⟨H',e,a,(wL_b 8).trans w,k⟩
 have Y:=G.Y;have hg:=G.hg;have hs:=G.hs;rw[w_gateway_Gateway_Do];unfold gateway_Gateway_Do;refine y17 (Mem.nil [] H) (ms_one hen) fun h1 M1=>y11 M1 fun h2 M2=>?_;have t2:=M2.tch;have n1:=M1.tch.1;have n2:=t2.1;have km2:=M2.at1.1;have kr2:=M2.at0.1;have lr2:=M2.at0.2.1;have G2:=G.other t2 (fun _ h=>nomatch h);rw[newP_eq h1]
 -- it is no question
 have no:(c=true→m.kd=9→False)→Wp (Abs.obind (stRow h2 22 (msC m0) (.ptr h1.next 0)) fun h_39=>Abs.obind (ldRow h_39 22 (.ptr h1.next 0)) fun w6_42=>some (.ret (.tup [.agg w6_42,.int .i64 2]),h_39)) fun r H'=>∃e a,r=.ret (.tup [.agg (msC a),.int .i64 e])∧QOut N lo nb db jb gb sb sl s L m a B H H' e∧(c=true→m.kd=9→AOut N lo nb db jb gb sb sl s L m a B H H' e):=fun hx=>by
  refine Wp.stAll kr2 rfl rfl rfl fun h3 k3 t3 n3=>Wp.obind (k3.ldAll rfl) ?_;have T3:Tch [] H h3:=t2.trans' t3 fun b hb=>.inr (by rw[List.mem_singleton.1 hb];exact n1);exact Wp.ret ⟨2,m0,rfl,.inr ⟨rfl,rfl,G.other T3 (fun _ h=>nomatch h),T3⟩,fun h1 h2=>(hx h1 h2).elim⟩
 -- it is one
 have yes:∀(fv:AV),isR m→(∀(H1:AHeap) (lo1:Nat→Prop) (ab:Nat) (a:Ms),Sy N lo1 nb H1 db jb s L B→RowH H1 gb TGw [.ptr jb 0,.mp sb,.int .i64 0]→gb<H1.next→¬lo1 gb→RowH H1 ab TMsg (msC a)→ab<H1.next→¬lo1 ab→¬nb ab→a.sq=(lastZ L m.tk).q→aboveJ (lastZ L m.tk).t (lastZ L m.tk).e m.tt m.te=false→∃H2 e,dynC Pg (world n (D+7)) fv [.agg (msC m),.nilp,.ptr ab 0] H1=some (.ret (.int .i64 e),H2)∧SOut N lo1 nb db jb ab s L m a B H1 H2 e)→
   Wp (Abs.obind (ldRow h2 22 (.ptr H.next 0)) fun t33=>callN (world n (D+8) 24 [.ptr gb 0,.agg t33,.nilp,fv] h2) fun r37 h_53=>Abs.obind (extT 0 r37) fun v38=>Abs.obind (avAgg v38) fun t38=>Abs.obind (extT 1 r37) fun v39=>Abs.obind (avInt .i64 v39) fun t39=>Abs.obind (stRow h_53 22 t38 (.ptr h1.next 0)) fun h_59=>Abs.obind (ldRow h_59 22 (.ptr h1.next 0)) fun w6_62=>some (.ret (.tup [.agg w6_62,.int .i64 t39]),h_59)) fun r H'=>∃e a,r=.ret (.tup [.agg (msC a),.int .i64 e])∧QOut N lo nb db jb gb sb sl s L m a B H H' e∧(c=true→m.kd=9→AOut N lo nb db jb gb sb sl s L m a B H H' e):=fun fv hir hdo=>by
  obtain⟨h3,e,a,e3,A3⟩:=fenced_w (n:=n) (D:=D) G2 hen hdo;have A3':=id A3;obtain⟨a1,_,_,lo',nb',S,s',hle,T3,hS,hn',_⟩:=A3'
  have kr3:=kr2.tch T3 lr2 (fun h=>by
   rcases hS _ h with h|h|h|h
   ·rcases h.2 with h|h<;>omega
   ·have := (Y.sep _ h).2.2
    omega
   ·omega
   ·omega)
  refine Wp.obind (km2.ldAll rfl) (Wp.callN e3 (Wp.obind (extT_0 _ _) (Wp.obind (avAgg_agg _) (Wp.obind (extT_1 _ _ _) (Wp.obind (avInt_int _ _) (Wp.stAll kr3 rfl rfl (ms_one (by rw[a1];rfl)) fun h4 k4 t4 n4=>Wp.obind (k4.ldAll rfl) ?_))))));have A4:=AOut.wrap (fun b hb=>(Y.sep b hb).2.2) hg hs t2 A3 n1 lr2 t4;exact Wp.ret ⟨e,a,rfl,.inl A4,fun _ _=>A4⟩
 have g0:(msC m)[0+0]? =some (.int .u8 m.kd):=rfl;refine Wp.outK (eqGw gb h2) (Wp.obind (avBool_bool _) (y7 rfl (Wp.obind (nilC_ptr _ _) (Wp.obind (fldP_ptr _ _ _) (Wp.obind (y5 G2.row rfl) (Wp.obind (avInt_int _ _) (Wp.lett (y7 rfl (Wp.obind (km2.ldAll rfl) (Wp.callN (hc h2) (Wp.obind (avBool_bool _) (Wp.lett ?_))))))))))))
 cases c with
 |false=>exact yc rfl (no fun h=>nomatch h)
 |true=>
  have hir:=hr rfl;refine y7 rfl (Wp.obind (fldP_ptr _ _ _) (Wp.obind (y5 km2 g0) (Wp.obind (avInt_int _ _) (Wp.lett ?_))))
  by_cases k7:m.kd=7
  ·refine yc (beq_t k7) (yes _ hir fun H1 lo1 ab a Y1 _ hg1 _ ka hab h1 h2 _ _ => ?_)
   obtain⟨H2,e2,o2⟩:=attach_w (n:=n) (d:=D+5) (gb:=gb) (m:=m) Y1 (by omega) hen ka hab h1 h2;exact⟨H2,0,(dynG25 _ _ _ _ _).trans e2,o2⟩
  refine y7 (beq_f k7) (Wp.lett ?_)
  by_cases k9:m.kd=9
  ·refine yc (beq_t k9) (yes _ hir fun H1 lo1 ab a Y1 r1 hg1 _ ka hab h1 h2 hsq hf => ?_)
   obtain⟨H2,e,e2,o2⟩:=send_w (n:=n) (D:=D) hn (by omega) Y1 r1 hg1 k9 hen hd hir ka hab h1 h2 hsq hL hf;exact⟨H2,e,(dynG26 _ _ _ _ _).trans e2,o2⟩
  refine y7 (beq_f k9) (Wp.lett ?_)
  by_cases k11:m.kd=11
  ·refine yc (beq_t k11) (yes _ hir fun H1 lo1 ab a Y1 _ hg1 _ ka hab h1 h2 _ _ => ?_)
   obtain⟨H2,e2,o2⟩:=pull_w (n:=n) (d:=D+5) (gb:=gb) (m:=m) Y1 (by omega) hen ka hab h1 h2;exact⟨H2,0,(dynG27 _ _ _ _ _).trans e2,o2⟩
  ·exact y7 (beq_f k11) (no fun _ h=>k9 h)
end
section
variable {N n d D db jb:Nat}{nb:Nat→Prop}{H H':AHeap}{L:List Snd}{br:Int}{v:AV}
theorem SndAt.same(k:SndAt H v L)(hg:∀b∈blkV v,H'.get b=H.get b)(hn:H.next≤H'.next):SndAt H' v L:=by
 rcases k with k|⟨c,rfl,h2,h3⟩
 ·exact .inl k
 ·exact .inr ⟨c,rfl,h2.same (hg c (List.mem_singleton.2 rfl)),Nat.lt_of_lt_of_le h3 hn⟩
set_option maxHeartbeats 1000000 in
theorem list_w{gb sb:Nat}{gr:Int}(G:RowH H gb TGw [.ptr jb 0,.mp sb,.int .i64 gr])(J:JAt nb H jb db L br)(hnb:∀b,nb b→b<H.next)(hx:H.ex=[])(hl:L.length<1000000)(hn:1000000<n):
  ∃H' v,wL n (D+2) (d+3) false 15 [.ptr gb 0] H=some (.ret (.tup [v,.bool true]),H')∧SndAt H' v L∧(∀b∈blkV v,H.next≤b)∧Tch [] H H':=by
 suffices hK:Wp (law23_list (wL n (D+2) (d+2)) n (.ptr gb 0) H) fun r H'=>∃v,r=.ret (.tup [v,.bool true])∧SndAt H' v L∧(∀b∈blkV v,H.next≤b)∧Tch [] H H' by
  obtain⟨_,H',e,v,rfl,k⟩:=hK;exact⟨H',v,wL_law23_list n (D+2) (d+2) _ e,k⟩
 unfold law23_list
 have eA0:world n (D+1) 44 [.ptr jb 0] H=some (.ret (AV.fn 56 [] [.ptr H.next 0]),newH H TPJ [.ptr jb 0]):=by
  rw[w_journal_Journal_All];rfl
 have eA:world n (D+2) 31 [.ptr gb 0] H=some (.ret (AV.fn 56 [] [.ptr H.next 0]),newH H TPJ [.ptr jb 0]):=by
  apply Wp.eq;rw[w_gateway_Gateway_Taken];unfold gateway_Gateway_Taken;exact Wp.outK (eqGw gb H) (Wp.obind (avBool_bool _) (y7 rfl (Wp.obind (nilC_ptr _ _) (Wp.obind (fldP_ptr _ _ _) (Wp.obind (y5 G rfl) (Wp.callN eA0 (Wp.ret ⟨rfl,rfl⟩)))))))
 obtain⟨h2,hh2⟩:∃h2,h2=newH H TPJ [.ptr jb 0]:=⟨_,rfl⟩;have kv2:RowH h2 H.next TPJ [.ptr jb 0]:=by rw[hh2];exact RowH.new _ _ _
 have lv2:H.next<h2.next:=by rw[hh2];exact lt_newH _ _ _
 have t2:Tch [] H h2:=by rw[hh2];exact Tch.newH _ _ _ _
 rw[←hh2] at eA;refine Wp.callN ((wL_b 31).trans eA) (Wp.outK (eqFnN H.next h2) (Wp.obind (avBool_bool _) (y7 rfl (y11 (Mem.nil [] h2) fun h3 M3=>?_))));rw[newP_eq h2];have t3:=M3.tch;have n3:=t3.1;have ko3:=M3.at0.1;have lo3:=M3.at0.2.1;obtain⟨t0,ht0⟩:∃t0,t0=Fr.tree [(2,AV.nsl),(3,.bool false),(5,.ptr h2.next 0),(11,AV.fn 56 [] [.ptr H.next 0])]:=⟨_,rfl⟩
 have hg:∀x:Snd,((putPs (law23_list_R0 n).N (y16 (law23_list_R0 n).c).toList [.agg (sndC x)] t0).bind fun t=>slotsC t (law23_list_R0 n).sa)=some [.ptr h2.next 0,.agg (sndC x)]:=fun x=>by
  rw[ht0]
  kernel_rfl
 rw[←ht0];have t1:=rngH_tch [] (law23_list_R0 n).N (law23_list_R0 n).c t0 h3;have n1:=rngH_next (law23_list_R0 n).N (law23_list_R0 n).c t0 h3;have r1:=rngH_rec (law23_list_R0 n).N (law23_list_R0 n).c t0 h3;have d1:=rngH_mark (law23_list_R0 n).N (law23_list_R0 n).c t0 h3;obtain⟨Hs,hHs⟩:∃Hs,Hs=rngH (law23_list_R0 n).N (law23_list_R0 n).c t0 h3:=⟨_,rfl⟩;rw[←hHs] at t1 n1 r1 d1;have T1:Tch [] H Hs:=(t2.trans t3).trans t1;have x1:Hs.ex=[]:=by rw[T1.2.1,hx]
 have kv1:=(kv2.tch t3 lv2 (fun h=>nomatch h)).tch t1 (by omega) (fun h=>nomatch h);have ko1:=ko3.tch t1 lo3 (fun h=>nomatch h);have J1:=J.tch T1 (fun _ h=>nomatch h);have hNs:=T1.1;obtain⟨sv,es,ss,ns⟩:=J1.sv_ld
 obtain⟨H',e,ov,a1,a2,a3,a4,a5,a6,a7⟩:=jall_iter (n:=n) (D:=D+2) (d:=d+1) (H:=Hs) (y:=h3.next+1) (bx:=H.next)
  (Inv:=fun i H2=>∃ov,RowH H2 h2.next TTks [ov]∧SndAt H2 ov (L.take i)∧H2.get (h3.next+1)=some (recQ .ready .none (law23_list_R0 n).N (law23_list_R0 n).c t0 h3.next)∧Hs.next≤H2.next∧H2.ex=[]∧(∀b∈blkV ov,Hs.next≤b∧b<H2.next)∧(∀b,b<Hs.next→b≠h2.next→b≠h3.next+1→H2.get b=Hs.get b)) hn hl J1 kv1
  (fun sv' es' i H2 I => by
   rw[es] at es'
   cases es'
   obtain⟨ov,_,_,_,i4,_,_,i7⟩:=I;exact ss.same (fun b hb=>i7 b (by have:=hnb b (ns b hb);omega) (by have:=hnb b (ns b hb);omega) (by have:=hnb b (ns b hb);omega)) i4)
  (fun i H2 hi I H3 t23 => by
   obtain⟨ov,i1,i2,i3,i4,i5,i6,i7⟩:=I;have n23:=t23.1;have i3':H3.get (h3.next+1)=some (recQ .ready .none (law23_list_R0 n).N (law23_list_R0 n).c t0 h3.next):=(t23.2.2 _ (by omega) (fun h=>nomatch h)).trans i3;obtain⟨H4,ov',e4,b1,b2,b3,b4,b5,b6,b7⟩:=list_round (n:=n) (D:=D+2) (d:=d) (x:=L[i]) (y:=h3.next+1) i3' (by omega) (i1.tch t23 (by omega) (fun h=>nomatch h)) (by omega) (i2.tch t23 (fun _ _ h=>nomatch h)) (by rw[t23.2.1,i5]) (by rw[List.length_take];omega) (hg _) (fun hb=>by have:=(i6 _ hb).1;omega);refine⟨H4,?_,ov',b1,?_,b3,by omega,b5,fun b hb=>⟨by have:=b6 b hb;omega,b2.lt b hb⟩,fun b g1 g2 g3=>?_⟩
   ·rw [dynB_yld i3' (by kernel_rfl)]
    exact e4
   ·rw [List.take_succ_eq_append_getElem hi]
    exact b2
   ·rw[b7 b (by omega) g2 g3 (fun hb=>by have:=(i6 _ hb).1;omega),t23.2.2 b (by omega) (fun h=>nomatch h),i7 b g1 g2 g3])
  ⟨.nsl,ko1,.inl ⟨rfl,rfl⟩,r1,Nat.le_refl _,x1,(fun _ h=>nomatch h),fun _ _ _ _=>rfl⟩
 rw[hHs] at e;rw[List.take_length] at a2;have m1:∀{a b:Nat},a≠b→a ∉ [b]:=fun h h2=>h (List.mem_singleton.1 h2);have tp:∀(G:AHeap) (b:Nat) (o:AObj),Tch [b] G (G.put b o):=fun G b o=>Tch.put (.inl (List.mem_singleton.2 rfl)) _;refine Wp.rng (by kernel_rfl) e a3 (by decide) (fun _=>?_) (fun h=>nomatch h) (fun _ h=>nomatch h);have t9:=tp H' (h3.next+1) (recQ .exhausted .none (law23_list_R0 n).N (law23_list_R0 n).c t0 h3.next);have ko9:=a1.tch t9 (by omega) (m1 (by omega))
 have so9:=a2.tch t9 (fun b hb h=>by
  have h1:=(a6 b hb).1;have h2:=List.mem_singleton.1 h;omega)
 have hm:(H'.put (h3.next+1) (recQ .exhausted .none (law23_list_R0 n).N (law23_list_R0 n).c t0 h3.next)).get h3.next=some (.obj .dfr):=by
  rw[get_put_other _ (by omega),a7 _ (by omega) (by omega) (by omega)];exact d1
 refine Wp.obind (y5 ko9 rfl) (y3f hm (y2e (Wp.ret ⟨ov,rfl,so9.tch (tp _ h3.next (.obj .shut)) (fun b hb h=>by
  have h1:=(a6 b hb).1;have h2:=List.mem_singleton.1 h;omega),fun b hb=>by have:=(a6 b hb).1;omega,?_,?_,fun b hb _=>?_⟩)))
 ·show H.next ≤ H'.next
  omega
 ·show H'.ex = H.ex
  rw[a5,hx]
 ·rw [get_put_other _ (by omega), get_put_other _ (by omega), a7 _ (by omega) (by omega) (by omega)]
  exact T1.2.2 b hb (fun h=>nomatch h)
end
def okX(P:Program):Nat→Nat ⊕ List Field→AV→Bool
 |0,_,_=>false
 |d+1,.inl t,x=>match P.underlying t with
  |some (.int _)=>(match x with| .int _ _=>true|_=>false)
  |some .string=>(match x with| .str _ _=>true|_=>false)
  |some (.struct _)=>(match x with| .agg _=> !(P.stoodInHeld t)&&okX P d (.inr (P.fieldsOf t).toList) x|_=>false)
  |_=>false
 |_+1,.inr [],_=>true
 |d+1,.inr (f::fs),x=>match x with
  | .agg xs=> !(f.name == "_")&&((match partA P f.type xs f.offset with|some a=>okX P d (.inl f.type) a|none=>false)&&okX P d (.inr fs) x)
  |_=>false
theorem okX_self(P:Program):∀(k:Nat),(∀(t:Nat) (x:AV),okX P k (.inl t) x=true→∀d,k≤d→eqA P d t x x=some true)∧(∀(fs:List Field) (xs:List AV),okX P k (.inr fs) (.agg xs)=true→∀d,k≤d→eqFields P d fs xs xs=some true)
 |0=>⟨fun _ _ h=>(nomatch h),fun _ _ h=>(nomatch h)⟩
 |k+1=>by
  obtain⟨ih1,ih2⟩:=okX_self P k;refine⟨fun t x h d hd=>?_,fun fs xs h d hd=>?_⟩
  ·obtain ⟨d, rfl⟩ : ∃ e, d = e + 1 := ⟨d - 1, by omega⟩
   unfold okX at h;unfold eqA;cases hu:P.underlying t with
   |none=>rw[hu] at h;cases h
   |some u=>
    rw[hu] at h
    cases u<;>cases x<;>simp at h ⊢
    obtain⟨h1,h2⟩:=h;exact⟨h1,ih2 _ _ h2 d (by omega)⟩
  ·obtain ⟨d, rfl⟩ : ∃ e, d = e + 1 := ⟨d - 1, by omega⟩
   cases fs with
   |nil=>unfold eqFields;rfl
   |cons f fs=>
    unfold okX at h;simp only[Bool.and_eq_true,Bool.not_eq_true',beq_eq_false_iff_ne] at h;obtain⟨h1,h2,h3⟩:=h;unfold eqFields;rw[if_neg h1];cases hp:partA P f.type xs f.offset with
    |none=>rw[hp] at h2;cases h2
    |some a=>
     rw[hp] at h2
     simp only
     rw[ih1 _ _ h2 d (by omega)];exact ih2 _ _ h3 d (by omega)
theorem eqTk_self(x:Snd):eqOther Try.prog TTk (.agg (sndC x)) (.agg (sndC x))=some true:=by
 have hg:Try.prog.eqGuardType Try.prog.depth TTk=false:=by kernel_rfl
 have ho:okX Try.prog 9 (.inl TTk) (.agg (sndC x))=true:=by kernel_rfl
 have he:=(okX_self Try.prog 9).1 _ _ ho 2000 (by omega);unfold eqOther;dsimp only;rw[hg,if_neg (by decide)];exact he
theorem bldGw(jb sb:Nat):bldS Pg TGw [(0,.ptr jb 0),(1,.mp sb)]=some [.ptr jb 0,.mp sb,.int .i64 0]:=by kernel_rfl
def askM(k t e q:Int)(u:Bytes):Ms:={m0 with kd:=k,to:=3,da:=u,tk:=1,tt:=t,te:=e,sq:=q}
theorem bldAsk(k t e q:Int)(u:Bytes):bldS Pg TMsg [(0,.int .u8 k),(2,.int .i64 3),(13,.int .i64 1),(14,.agg ([.int .i64 t,.int .i64 e]:List AV)),(15,.int .i64 q),(12,strA u)]=some (msC (askM k t e q u)):=by kernel_rfl
section
variable {N n d D db jb gb sb B:Nat}{lo nb:Nat→Prop}{H H':AHeap}{s:DS}{L:List Snd}{sl:List (Int×Int×Int)}
theorem ask_w(k t e q:Int)(u:Bytes):∃H',wL n D (d+1) false 9 [.int .u8 k,.int .i64 t,.int .i64 e,.int .i64 q,strA u] H=some (.ret (.agg (msC (askM k t e q u))),H')∧Tch [] H H':=by
 suffices hK:Wp (law23_ask (wL n D d false) n k t e q u H) fun r H'=>r=.ret (.agg (msC (askM k t e q u)))∧Tch [] H H' by
  obtain⟨_,H',w,rfl,t⟩:=hK;exact⟨H',wL_law23_ask n D d _ _ _ _ _ w,t⟩
 unfold law23_ask;refine y11 (Mem.nil [] H) fun h2 M2=>Wp.obind (bldAsk _ _ _ _ _) ?_;rw[newP_eq H];exact y1a M2 rfl rfl (ms_one rfl) fun h3 M3=>y32 M3 rfl (Wp.ret ⟨rfl,M3.tch⟩)
theorem Crd.gopen(Y:Crd N lo H db s B L)(hn:1000000000<n)(hB:B<700000):
  ∃lo' nb' H' jb gb sb S s',wL n (D+6) (d+7) false 7 [.ptr db 0] H=some (.ret (.tup [.ptr gb 0,.int .i64 0]),H')∧Gs N lo' nb' H' db jb gb sb [] s' L (B+4)∧s'.p= -1∧Less lo lo'∧(∀b,nb' b→H.next≤b)∧(H.next≤gb∧H.next≤sb)∧Tch S H H'∧∀b∈S,lo b:=by
 suffices hK:Wp (gateway_Open (wL n (D+6) (d+6) false) n (.ptr db 0) H) fun r H'=>∃lo' nb' jb gb sb S s',r=.ret (.tup [.ptr gb 0,.int .i64 0])∧Gs N lo' nb' H' db jb gb sb [] s' L (B+4)∧s'.p= -1∧Less lo lo'∧(∀b,nb' b→H.next≤b)∧(H.next≤gb∧H.next≤sb)∧Tch S H H'∧∀b∈S,lo b by
  obtain⟨_,H',w,lo',nb',jb,gb,sb,S,s',rfl,k⟩:=hK;exact⟨lo',nb',H',jb,gb,sb,S,s',wL_gateway_Open n (D+6) (d+6) _ w,k⟩
 obtain⟨lo1,nb1,H1,jb,S1,s1,e1,Y1,hp1,L1,N1,t1,hS1⟩:=Y.open (D:=D) (d:=d) hn hB;have n1:=t1.1;have eL:=loose_a (n:=n) (d:=D+4) (z:=0) Y1.K;rw[if_pos (show isF (0:Int) from ⟨by decide,by decide⟩),show (0:Int).toNat=0 from rfl,Y1.fi.loose] at eL;unfold gateway_Open;refine Wp.callN e1 (Wp.obind (extT_0 _ _) (Wp.obind (extT_1 _ _ _) (Wp.obind (avInt_int _ _) (Wp.lett (y7 rfl (Wp.callN ((wL_b 21).trans eL) (Wp.obind (avInt_int _ _) (Wp.lett (y8 fun k18 e18=>y7 rfl ?_)))))))));rw[e18];refine y8 fun h2 e2=>Wp.obind (bldGw jb H1.next) ?_;have t2:Tch [] H1 h2:=by rw[e2];exact Tch.new _ _ _
 have l2:H1.next<h2.next:=by rw[e2];exact Nat.lt_succ_self _
 have g2:h2.get H1.next=some (.map (fnE [])):=by rw[e2];exact y13 _ _ _
 refine y17 (Mem.nil [] h2) rfl fun h3 M3=>?_;have t3:=M3.tch;have n3:=t3.1;have l3:=M3.at0.2.1;have T3:Tch [] H1 h3:=t2.trans t3;have Y3:=Y1.other T3 (fun _ h=>nomatch h);have hNH:=Y1.hN;refine Wp.ret ⟨_,nb1,jb,h2.next,H1.next,S1,s1,rfl,⟨Y3,M3.at0.1,(t3.2.2 _ l2 (fun h=>nomatch h)).trans g2,l3,by omega,by omega,by omega,fun h=>by rcases h.2 with h|h<;>omega,fun h=>by rcases h.2 with h|h<;>omega,fun h=>by have:=(Y1.sep _ h).2.2;omega,fun h=>by have:=(Y1.sep _ h).2.2;omega⟩,hp1,fun b hb=>L1 b hb.1,N1,⟨by omega,by omega⟩,t1.trans (T3.mono fun _ h=>nomatch h),hS1⟩
theorem fresh(hX:H.ex=[])(hn:1000000000<n)(hN:N≤H.next):∃H1,wL n (D+6) (d+7) false 6 [] H=some (.ret (.ptr H.next 0),H1)∧Tch [] H H1∧∃lo' nb' H' jb gb sb S s',wL n (D+6) (d+7) false 7 [.ptr H.next 0] H1=some (.ret (.tup [.ptr gb 0,.int .i64 0]),H')∧Gs N lo' nb' H' H.next jb gb sb [] s' [] 4∧s'.p= -1∧Tch S H1 H'∧∀b∈S,N≤b:=by
 obtain⟨H1,e1,K,t1⟩:=new_ok (n:=n) (d:=D+5) (h:=H) hX;have C:Crd N (fun b=>H.next≤b) H1 H.next newS 0 []:=⟨K,rfl,⟨[],⟨rfl,rfl,rfl,takeR_nil,fun _=>⟨rfl,rfl⟩⟩⟩,trivial,fun _ hb=>Nat.le_trans hN hb,Nat.le_trans hN t1.1⟩;obtain⟨lo',nb',H',jb,gb,sb,S,s',e,G,hp,_,_,_,t,hS⟩:=C.gopen (D:=D) (d:=d) hn (by decide);exact⟨H1,(wL_b 6).trans e1,t1,lo',nb',H',jb,gb,sb,S,s',e,G,hp,t,fun b hb=>Nat.le_trans hN (hS b hb)⟩
theorem isR_ask{k t e q:Int}{u:Bytes}(h1:1≤t∧t≤1000)(h2:1≤e∧e≤1000):world n (d+1) 23 [.agg (msC (askM k t e q u))] H=some (.ret (.bool true),H)∧isR (askM k t e q u):=by
 refine⟨?_,⟨(show (1:Int)≤1 from Int.le_refl 1),(show (1:Int)≤1048576 by decide)⟩,⟨h1.1,by show t≤_;omega⟩,h2.1,by show e≤_;omega⟩;apply Wp.eq;rw[w_gateway_isRight];refine y3d ?_;unfold gateway_isRight;refine y17 (Mem.nil [] H) (ms_one rfl) fun h2' M2=>?_;have k2:=M2.at0.1;have A:=M2.tch.above;have g1:(msC (askM k t e q u))[0+1]? =some (.int .i64 0):=rfl;have g2:(msC (askM k t e q u))[0+13]? =some (.int .i64 1):=rfl;have g3:(msC (askM k t e q u))[0+14+0]? =some (.int .i64 t):=rfl;have g4:(msC (askM k t e q u))[0+14+1]? =some (.int .i64 e):=rfl;refine Wp.obind (fldP_ptr _ _ _) (Wp.obind (y5 k2 g1) (Wp.obind (avInt_int _ _) (Wp.lett (y8 fun j10 e10=>yc rfl (Wp.obind (fldP_ptr _ _ _) (Wp.obind (y5 k2 g1) (Wp.obind (avInt_int _ _) (Wp.lett ?_))))))));rw[e10];refine y8 fun j15 e15=>yc rfl (Wp.obind (fldP_ptr _ _ _) (Wp.obind (y5 k2 g2) (Wp.obind (avInt_int _ _) (Wp.lett ?_))));rw[e15];refine y8 fun j20 e20=>yc rfl (Wp.obind (fldP_ptr _ _ _) (Wp.obind (y5 k2 g2) (Wp.obind (avInt_int _ _) (Wp.lett ?_))));rw[e20];refine y8 fun j26 e26=>yc rfl (Wp.obind (fldP_ptr _ _ _) (Wp.obind (fldP_ptr _ _ _) (Wp.obind (y5 k2 g3) (Wp.obind (avInt_int _ _) (Wp.lett ?_)))));rw[e26];refine y8 fun j32 e32=>yc (by rw[decide_eq_true_eq];omega) (Wp.obind (fldP_ptr _ _ _) (Wp.obind (fldP_ptr _ _ _) (Wp.obind (y5 k2 g3) (Wp.obind (avInt_int _ _) (Wp.lett ?_)))));rw[e32];refine y8 fun j38 e38=>yc (by rw[decide_eq_true_eq];omega) (Wp.obind (fldP_ptr _ _ _) (Wp.obind (fldP_ptr _ _ _) (Wp.obind (y5 k2 g4) (Wp.obind (avInt_int _ _) (Wp.lett ?_)))));rw[e38];refine y8 fun j44 e44=>yc (by rw[decide_eq_true_eq];omega) (Wp.obind (fldP_ptr _ _ _) (Wp.obind (fldP_ptr _ _ _) (Wp.obind (y5 k2 g4) (Wp.obind (avInt_int _ _) (Wp.lett ?_)))));rw[e44,decide_eq_true (show e≤1048576 by omega)];exact Wp.ret ⟨A,rfl,rfl,rfl⟩
set_option maxHeartbeats 2000000 in
theorem works_w(hX:H.ex=[])(hn:1000000000<n):∃H',wL n (D+9) (d+8) false 5 [] H=some (.ret (.bool true),H')∧Tch [] H H':=by
 suffices hK:Wp (law23_works ((wL n (D+9) (d+7)) false) n H) fun r H'=>r=.ret (.bool true)∧Tch [] H H' by
  obtain⟨_,H',e,rfl,k⟩:=hK;exact⟨H',wL_law23_works n (D+9) (d+7) e,k⟩
 unfold law23_works;obtain⟨H1,e1,t1,lo2,nb2,H2,jb,gb,sb,S2,s2,e2,G2,hp2,t2,hS2⟩:=fresh (D:=D+3) (d:=d) (N:=H.next) hX hn (Nat.le_refl _);have T2:Tch [] H H2:=t1.trans' t2 fun b hb=>.inr (hS2 b hb);refine Wp.callN e1 (Wp.callN e2 (Wp.obind (extT_0 _ _) (Wp.obind (extT_1 _ _ _) (Wp.obind (avInt_int _ _) (Wp.lett (y8 fun j20 e20=>y7 rfl (Wp.outK (eqGw gb H2) (Wp.obind (avBool_bool _) ?_))))))));obtain⟨H3,e3,t3⟩:=ask_w (n:=n) (D:=D+9) (d:=d+6) (H:=H2) 9 2 1 1 [97];have G3:=G2.other t3 (fun _ h=>nomatch h);obtain⟨H4,e,a,e4,_,A4⟩:=G3.ask (n:=n) (D:=D) (d:=d+6) (m:=askM 9 2 1 1 [97]) (c:=true) (by omega) (by decide) rfl (by decide) (by decide) (fun H=>(isR_ask (n:=n) (d:=D+7) (by decide) (by decide)).1) (fun _=>(isR_ask (n:=n) (d:=0) (H:=H) (by decide) (by decide)).2);obtain⟨q1,q2,q3,lo4,nb4,S4,s4,hle4,T4,hS4,hn4,hcase⟩:=A4 rfl rfl;have he:=q3 hp2;subst he
 rcases hcase with⟨_,_,_,_,_,c⟩|⟨_,_,⟨sl4,G4⟩,c1,c2,c3,_⟩|⟨h,_⟩
 ·exact(c rfl rfl rfl (isR_ask (n:=n) (d:=0) (H:=H) (by decide) (by decide)).2 (by decide) rfl).elim
 rotate_left
 ·cases h
 have hN3:=G3.Y.hN
 have hin:∀b∈S4,H.next≤b:=fun b hb=>by
  rcases hS4 b hb with h|h|h|h
  ·exact G3.Y.hl b h
  ·exact(G3.Y.sep b h).1
  ·rw[h];exact G3.gN
  ·rw[h];exact G3.sN
 have TT4:Tch [] H H4:=(T2.trans t3).trans' T4 fun b hb=>.inr (hin b hb);have n4:=TT4.1;rw[e20];refine y7 rfl (Wp.callN e3 (Wp.obind (avAgg_agg _) (Wp.callN e4 (Wp.obind (extT_0 _ _) (Wp.obind (avAgg_agg _) (Wp.obind (extT_1 _ _ _) (Wp.obind (avInt_int _ _) (y11 (Mem.nil [] H4) fun h5 M5=>?_))))))));rw[newP_eq H4];refine y1a M5 rfl rfl (ms_one (by rw[q1];rfl)) fun h6 M6=>?_;have t6:=M6.tch;have ka6:=M6.at0.1;have la6:=M6.at0.2.1;have G6:=G4.other t6 (fun _ h=>nomatch h);obtain⟨H7,e7,t7⟩:=ask_w (n:=n) (D:=D+9) (d:=d+6) (H:=h6) 9 1 9 2 [98];have G7:=G6.other t7 (fun _ h=>nomatch h);obtain⟨H8,e',a',e8,Q8,A8⟩:=G7.ask (n:=n) (D:=D) (d:=d+6) (m:=askM 9 1 9 2 [98]) (c:=true) (by omega) (by decide) rfl (by decide) (by decide) (fun H=>(isR_ask (n:=n) (d:=D+7) (by decide) (by decide)).1) (fun _=>(isR_ask (n:=n) (d:=0) (H:=H) (by decide) (by decide)).2);obtain⟨r1,r2,r3,lo8,nb8,S8,s8,hle8,T8,hS8,hn8,hcase8⟩:=A8 rfl rfl;have hab:aboveJ (lastZ ([]++[xOf (askM 9 2 1 1 [97])]) 1).t (lastZ ([]++[xOf (askM 9 2 1 1 [97])]) 1).e 1 9=true:=by decide
 rcases hcase8 with⟨he',⟨sl8,G8⟩,d1,_,d3,_⟩|⟨_,_,_,_,_,_,hf⟩|⟨_,_,M8⟩
 rotate_left
 ·rw [show aboveJ (lastZ ([] ++ [xOf (askM 9 2 1 1 [97])]) (askM 9 1 9 2 [98]).tk).t (lastZ ([] ++ [xOf (askM 9 2 1 1 [97])]) (askM 9 1 9 2 [98]).tk).e (askM 9 1 9 2 [98]).tt (askM 9 1 9 2 [98]).te = true from hab] at hf
  cases hf
 ·have hr := M8.r
  have hx:refJ ([]++[xOf (askM 9 2 1 1 [97])]) (xOf (askM 9 1 9 2 [98]))≠0:=by decide
  exact absurd hr hx
 subst he'
 have hb8:∀b∈S8,H.next≤b∧b≠H4.next:=fun b hb=>by
  have n6:=t6.1;have n7:=t7.1;have ln:¬nb4 H4.next:=fun h=>by have:=(G4.Y.sep _ h).2.2;omega
  have lg:=G4.hg;have lS:=G4.hs
  rcases hS8 b hb with h|h|h|h
  ·exact⟨G7.Y.hl b h,fun h2=>by subst h2;rcases h.1.2 with h|h<;>omega⟩
  ·exact⟨(G7.Y.sep b h).1,fun h2=>ln (h2▸h)⟩
  ·exact⟨by rw[h];exact G7.gN,by omega⟩
  ·exact⟨by rw[h];exact G7.sN,by omega⟩
 have TT8:Tch [] H H8:=((TT4.trans t6).trans t7).trans' T8 fun b hb=>.inr (hb8 b hb).1;have ka8:=(ka6.tch t7 la6 (fun h=>nomatch h)).tch T8 (Nat.lt_of_lt_of_le la6 t7.1) (fun h=>(hb8 _ h).2 rfl);have la8:H4.next<H8.next:=by have:=t7.1;have:=T8.1;omega
 refine Wp.callN e7 (Wp.obind (avAgg_agg _) (Wp.callN e8 (Wp.obind (extT_0 _ _) (Wp.obind (avAgg_agg _) (Wp.obind (extT_1 _ _ _) (Wp.obind (avInt_int _ _) (y11 (Mem.nil [] H8) fun h9 M9=>?_)))))));rw[newP_eq H8];refine y1a M9 rfl rfl (ms_one (by rw[r1];rfl)) fun h10 M10=>?_;have t10:=M10.tch;have G10:=G8.other t10 (fun _ h=>nomatch h);have ka10:=ka8.tch t10 la8 (fun h=>nomatch h);obtain⟨H11,v,e11,s11,_,t11⟩:=list_w (n:=n) (D:=D+7) (d:=d+4) G10.row G10.Y.J (fun b hb=>(G10.Y.sep b hb).2.2) G10.Y.K.ex (by decide) (by omega);have ka11:=ka10.tch t11 (by have:=t10.1;omega) (fun h=>nomatch h);have kb11:=M10.at0.1.tch t11 M10.at0.2.1 (fun h=>nomatch h);refine Wp.callN e11 (Wp.obind (extT_0 _ _) (Wp.obind (extT_1 _ _ _) (Wp.obind (avBool_bool _) (Wp.lett (y8 fun j44 e44=>yc rfl (Wp.obind (y5 ka11 (show (msC a)[0]? =some (.int .u8 a.kd) from rfl)) (Wp.obind (avInt_int _ _) (Wp.lett ?_))))))));rw[q2 rfl,e44];refine y8 fun j49 e49=>yc rfl (Wp.obind (y5 ka11 (show (msC a)[16]? =some (.int .i64 a.sq) from rfl)) (Wp.obind (avInt_int _ _) (Wp.lett ?_)));rw[c1,e49];refine y8 fun j53 e53=>yc rfl (Wp.lett ?_);rw[e53];refine y8 fun j58 e58=>yc rfl (Wp.obind (y5 kb11 (show (msC a')[20]? =some (.int .i64 a'.er) from rfl)) (Wp.obind (avInt_int _ _) (Wp.lett ?_)));rw[d3 hab,e58];refine y8 fun j61 e61=>yc rfl ?_;rw[e61];refine y8 fun j66 e66=>yc rfl (Wp.obind s11.len (Wp.lett ?_));rw[e66];exact Wp.ret ⟨rfl,(TT8.trans t10).trans t11⟩
end
open Go.RowKit Abs
abbrev TSp:Nat:=51
structure Sp where
 k:Int
 n:Int
 m:Ms
 s:Bytes
 p:Int
noncomputable def spC(a:Sp):List AV:=.int .i64 a.k:: .int .i64 a.n::(msC a.m++[strA a.s,.int .i64 a.p])
def SpOk(a:Sp):Prop:=I64 a.n∧a.m.en.one=true∧a.m.da.length≤reachBytes∧a.s.length≤reachBytes
def szS(c:Sp):Nat:=min (c.s.length+c.m.da.length) 65536
def sumV:List Sp→Nat
 |[]=>0
 |c::l=>szS c+sumV l
theorem sp_one{x:Sp}(h:SpOk x):(spC x).all AV.one=true:=by
 have:=ms_one h.2.1;unfold spC;rw[List.all_cons,List.all_cons,List.all_append,this];rfl
theorem slc_one{N sz:Nat}{h:AHeap}{x:AV}{ls:List (List AV)}(k:Slc N h sz x ls):x.one=true:=by
 rcases k.2 with⟨_,e|e⟩|⟨b,_,_,e,_⟩<;>rw[e]<;>rfl
set_option maxRecDepth 100000 in
theorem ms_of{N k:Nat}{h:AHeap}{l:List AV}(hp:Plain Pg N h (k+4) TMsg l):∃m:Ms,l=msC m∧m.en.one=true∧m.da.length≤reachBytes:=by
 obtain⟨ls,rfl,hlen,hf⟩:=hp.structEach Try.underlying33
 obtain⟨l0,l1,l2,l3,l4,l5,l6,l7,l8,l9,l10,l11,l12,l13,l14,l15,l16,l17,l18,l19,l20,rfl⟩:∃l0 l1 l2 l3 l4 l5 l6 l7 l8 l9 l10 l11 l12 l13 l14 l15 l16 l17 l18 l19 l20,ls=[l0,l1,l2,l3,l4,l5,l6,l7,l8,l9,l10,l11,l12,l13,l14,l15,l16,l17,l18,l19,l20]:=by
  match ls,hlen with
  |[a0,a1,a2,a3,a4,a5,a6,a7,a8,a9,a10,a11,a12,a13,a14,a15,a16,a17,a18,a19,a20],_=>exact⟨a0,a1,a2,a3,a4,a5,a6,a7,a8,a9,a10,a11,a12,a13,a14,a15,a16,a17,a18,a19,a20,rfl⟩
 obtain⟨z0,rfl,_⟩:=(hf 0 _ _ rfl rfl).int Try.underlying5;obtain⟨z1,rfl,_⟩:=(hf 1 _ _ rfl rfl).int Try.underlying3;obtain⟨z2,rfl,_⟩:=(hf 2 _ _ rfl rfl).int Try.underlying3;obtain⟨z3,rfl,_⟩:=(hf 3 _ _ rfl rfl).int Try.underlying3;obtain⟨z4,rfl,_⟩:=(hf 4 _ _ rfl rfl).int Try.underlying3;obtain⟨z5,rfl,_⟩:=(hf 5 _ _ rfl rfl).int Try.underlying3;obtain⟨z6,rfl,_⟩:=(hf 6 _ _ rfl rfl).int Try.underlying3;obtain⟨z7,rfl,_⟩:=(hf 7 _ _ rfl rfl).int Try.underlying3;obtain⟨z8,rfl⟩:=(hf 8 _ _ rfl rfl).bool Try.underlying4;obtain⟨z9,_,rfl,w9,_⟩:=(hf 9 _ _ rfl rfl).slice Try.underlying29;obtain⟨z10,rfl,_⟩:=(hf 10 _ _ rfl rfl).int Try.underlying3;obtain⟨z11,rfl,_⟩:=(hf 11 _ _ rfl rfl).int Try.underlying3;obtain⟨u,rfl,w12⟩:=(hf 12 _ _ rfl rfl).str Try.underlying9;obtain⟨z13,rfl,_⟩:=(hf 13 _ _ rfl rfl).int Try.underlying3;obtain⟨fs,rfl,hfl,hff⟩:=(hf 14 _ _ rfl rfl).structEach Try.underlying31
 obtain⟨f0,f1,rfl⟩:∃f0 f1,fs=[f0,f1]:=by
  match fs,hfl with
  |[a,b],_=>exact⟨a,b,rfl⟩
 obtain⟨y0,rfl,_⟩:=(hff 0 _ _ rfl rfl).int Try.underlying3;obtain⟨y1,rfl,_⟩:=(hff 1 _ _ rfl rfl).int Try.underlying3;obtain⟨z15,rfl,_⟩:=(hf 15 _ _ rfl rfl).int Try.underlying3;obtain⟨z16,rfl,_⟩:=(hf 16 _ _ rfl rfl).int Try.underlying3;obtain⟨z17,rfl,_⟩:=(hf 17 _ _ rfl rfl).int Try.underlying3;obtain⟨z18,rfl,_⟩:=(hf 18 _ _ rfl rfl).int Try.underlying5;obtain⟨z19,rfl,_⟩:=(hf 19 _ _ rfl rfl).int Try.underlying26;obtain⟨z20,rfl,_⟩:=(hf 20 _ _ rfl rfl).int Try.underlying3;exact⟨⟨z0,z1,z2,z3,z4,z5,z6,z7,z8,z9,z10,z11,u,z13,y0,y1,z15,z16,z17,z18,z19,z20⟩,rfl,slc_one w9,w12⟩
set_option maxRecDepth 100000 in
theorem sp_of{N k:Nat}{h:AHeap}{l:List AV}(hp:Plain Pg N h (k+5) TSp l):∃x:Sp,l=spC x∧SpOk x:=by
 obtain⟨ls,rfl,hlen,hf⟩:=hp.structEach Try.underlying51
 obtain⟨l0,l1,l2,l3,l4,rfl⟩:∃l0 l1 l2 l3 l4,ls=[l0,l1,l2,l3,l4]:=by
  match ls,hlen with
  |[a,b,c,d,e],_=>exact⟨a,b,c,d,e,rfl⟩
 obtain⟨z0,rfl,w0⟩:=(hf 0 _ _ rfl rfl).int Try.underlying3;obtain⟨z1,rfl,w1⟩:=(hf 1 _ _ rfl rfl).int Try.underlying3;obtain⟨m,rfl,m1,m2⟩:=ms_of (k:=k) (hf 2 _ _ rfl rfl);obtain⟨u,rfl,w3⟩:=(hf 3 _ _ rfl rfl).str Try.underlying9;obtain⟨z4,rfl,_⟩:=(hf 4 _ _ rfl rfl).int Try.underlying3;exact⟨⟨z0,z1,m,u,z4⟩,rfl,wf_i64 w1,m1,m2,w3⟩
set_option maxRecDepth 100000 in
theorem sps_of{N k:Nat}{h:AHeap}{a:AV}(hp:ArgP Pg N h (k+6) 48 a):∃xs:List Sp,Slc N h 26 a (xs.map spC)∧(∀x∈xs,SpOk x)∧xs.length≤reachBytes:=by
 obtain⟨ls,h1,h2,h3⟩:=hp.slice Try.underlying48;obtain⟨xs,rfl,h4⟩:=map_of (f:=spC) (Q:=SpOk) ls fun l hl=>sp_of (h3 l hl);have hc:Pg.cellsOf TSp=26:=by kernel_rfl
 have hb:Nat.ble 1 (Pg.bytesOf TSp)=true:=by kernel_rfl
 have hb:=Nat.le_of_ble_eq_true hb;rw[hc] at h1;rw[List.length_map] at h2;exact⟨xs,h1,h4,Nat.le_trans (Nat.le_mul_of_pos_right _ hb) h2⟩
section
variable {n d D N:Nat}{h:AHeap}{a:AV}{xs:List Sp}
theorem heavy_loop(hs:Slc N h 26 a (xs.map spC))(hN:N≤h.next)(ho:∀x∈xs,SpOk x){k7:AHeap→R}{Q:ARes→AHeap→Prop}(hk:∀H,Tch [] h H→sumV xs≤16384→Wp (k7 H) Q)(hq:∀H,Tch [] h H→Q (.ret (.bool true)) H):
  ∀(todo:List Sp) (i fu t:Nat) (H:AHeap),xs.drop i=todo→todo.length<fu→t≤16384→t+sumV todo=sumV xs→Tch [] h H→xs.length≤reachBytes→Wp (law23_heavy_L0 a (xs.length:Int) k7 fu (t:Int) (i:Int) H) Q
 |_,_,0,_,_,_,hf,_,_,_,_=>by omega
 |[],i,fu+1,t,H,hd,hf,ht,hsum,T,_=>by
  have:=dropN hd;rw[law23_heavy_L0_s];unfold law23_heavy_L0b;exact Wp.lett (y7 (by rw[decide_eq_false_iff_not];omega) (hk H T (by have h0:sumV []=0:=rfl;omega)))
 |c::todo,i,fu+1,t,H,hd,hf,ht,hsum,T,hl=>by
  obtain⟨hi,hci,hd2⟩:=dropC hd;rw[List.length_cons] at hf;have hrb:reachBytes=140737488351232:=rfl;have hs2:=hs.tch T hN (fun b hb=>nomatch hb);obtain⟨b,hb,e1,e2⟩:=hs2.row (i:=i) (by rw[List.length_map];exact hi);rw[List.getElem_map,hci] at e2;have hoc:=ho c (hci▸List.getElem_mem hi);obtain⟨_,_,hc1,hc2⟩:=id hoc;have hss:sumV (c::todo)=szS c+sumV todo:=rfl;have hsz:szS c=min (c.s.length+c.m.da.length) 65536:=rfl;rw[law23_heavy_L0_s];unfold law23_heavy_L0b;refine Wp.lett (yc (by rw[decide_eq_true_eq];omega) (Wp.obind e1 (Wp.obind e2 (y11 (Mem.nil [] H) fun h2 M2=>?_))));rw[newP_eq];refine y1a M2 rfl rfl (sp_one hoc) fun h3 M3=>?_;have t3:=M3.tch;have T3:=T.trans t3;have g6:(spC c)[14]? =some (strA c.m.da):=rfl;have g7:(spC c)[24]? =some (strA c.s):=rfl;have l1:=lenS_nat c.s;have l2:=lenS_nat c.m.da;refine y26 M3 g7 (Wp.obind (avStr_str _) (y26 M3 g6 (Wp.obind (avStr_str _) (ye (by omega) (by omega) (Wp.lett ?_)))));rw[show (if (65536:Int)<lenS c.s+lenS c.m.da then (65536:Int) else lenS c.s+lenS c.m.da)=(szS c:Int) by split<;>omega];refine ye (by omega) (by omega) (Wp.lett ?_)
  by_cases h1:(t:Int)+(szS c:Int)>16384
  ·exact yc (by rw[decide_eq_true_eq];exact h1) (Wp.ret (hq _ T3))
  ·refine y7 (by rw [decide_eq_false_iff_not]; exact h1) (ye (by omega) (by omega) ?_)
   rw[show (t:Int)+(szS c:Int)=((t+szS c:Nat):Int) by omega,show (i:Int)+1=((i+1:Nat):Int) by omega];exact heavy_loop hs hN ho hk hq todo (i+1) fu (t+szS c) h3 hd2 (by omega) (by omega) (by omega) T3 hl
theorem heavy_w(hs:Slc N h 26 a (xs.map spC))(hN:N≤h.next)(ho:∀x∈xs,SpOk x)(hl:xs.length≤reachBytes)(hn:reachBytes<n):∃h' b,wL n D (d+1) false 16 [a] h=some (.ret (.bool b),h')∧Tch [] h h'∧(b=false→sumV xs≤16384∧xs.length≤120):=by
 suffices hK:Wp (law23_heavy (wL n D d false) n a h) fun r h'=>∃b,r=.ret (.bool b)∧Tch [] h h'∧(b=false→sumV xs≤16384∧xs.length≤120) by
  obtain⟨_,h',e,b,rfl,k⟩:=hK;exact⟨h',b,wL_law23_heavy n D d _ e,k⟩
 unfold law23_heavy;have hlen:=hs.len;rw[List.length_map] at hlen;refine Wp.obind hlen (y8 fun k7 e7=>heavy_loop hs hN ho (fun H T hsum=>?_) (fun H T=>⟨true,rfl,T,fun h=>nomatch h⟩) xs 0 n 0 h rfl (by omega) (by omega) (by omega) (Tch.refl _ _) hl);rw[e7];refine Wp.obind hlen (Wp.lett (Wp.ret ⟨_,rfl,T,fun h=>?_⟩));rw[decide_eq_false_iff_not] at h;exact⟨hsum,by omega⟩
end
noncomputable def law23_GatewayFences_L1b(call:CallF)(h_37:AHeap)(v79:AV)(h_119:AHeap)(t165:Int)(k129:Int→AHeap→R)(self:Int→Int→AHeap→R)(t13_162:Int)(t166:Int)(h_163:AHeap):R:=lett (decide (t166<t165)) fun (t167:Bool)=>ifB t167 (obind (idxP 5 v79 t166) fun t168=>obind (ldRow h_163 5 t168) fun t169=>lett (newH h_163 56 [.int .i64 0,.int .i64 0,.int .i64 0,.int .i64 0,.str 0 0]) fun h_172=>obind (stRow h_172 5 t169 (newP h_163)) fun h_174=>obind (ldCell h_174 (AV.ptr (AHeap.next h_163) 0)) fun v171=>obind (avInt .i64 v171) fun t171=>obind (ldCell h_174 (AV.ptr (AHeap.next h_37) 15)) fun v174=>obind (avInt .i64 v174) fun t174=>lett ((t171:Int) == t174) fun (t175:Bool)=>lett (fun (t13_183:Int) (h_184:AHeap)=>lett (IntKind.i64.wrap (t166+1)) fun (t191:Int)=>self t13_183 t191 h_184) fun k182=>ifB t175 (obind (ldCell h_174 (AV.ptr (AHeap.next h_163) 3)) fun v177=>obind (avInt .i64 v177) fun t177=>lett (IntKind.i64.wrap (t13_162+1)) fun (t179:Int)=>lett ((t177:Int) != t179) fun (t180:Bool)=>lett (fun (t186:Bool) (h_192:AHeap)=>ifB t186 (some (.ret (.bool false),h_192)) (obind (ldCell h_192 (AV.ptr (AHeap.next h_163) 3)) fun v188=>obind (avInt .i64 v188) fun t188=>obind (ldRow h_192 2 (AV.ptr (AHeap.next h_163) 1)) fun t190=>obind (stRow h_192 2 t190 (newP h_119)) fun h_199=>k182 t188 h_199)) fun j186=>ifB t180 (j186 true h_174) (obind (ldRow h_174 2 (newP h_119)) fun t182=>obind (ldRow h_174 2 (AV.ptr (AHeap.next h_163) 1)) fun t184=>callN (call 19 [.agg t182,.agg t184] h_174) fun r185 h_203=>obind (avBool r185) fun t185=>j186 t185 h_203)) (k182 t13_162 h_174)) (k129 t13_162 h_163)
noncomputable def law23_GatewayFences_L1(call:CallF)(h_37:AHeap)(v79:AV)(h_119:AHeap)(t165:Int)(k129:Int→AHeap→R):Nat→Int→Int→AHeap→R:=iterR (fun _ _ _=>none) (law23_GatewayFences_L1b call h_37 v79 h_119 t165 k129)
theorem law23_GatewayFences_L1_s(call:CallF)(h_37:AHeap)(v79:AV)(h_119:AHeap)(t165:Int)(k129:Int→AHeap→R)(m:Nat):law23_GatewayFences_L1 call h_37 v79 h_119 t165 k129 (m+1)=law23_GatewayFences_L1b call h_37 v79 h_119 t165 k129 (law23_GatewayFences_L1 call h_37 v79 h_119 t165 k129 m):=rfl
noncomputable def law23_GatewayFences_L0b(call:CallF)(n:Nat)(t0:AV)(r21:AV)(t30:Int)(k33:AHeap→R)(self:AV→AV→Int→AHeap→R)(t4:AV)(t6:AV)(t31:Int)(h_37:AHeap):R:=
 lett (decide (t31<t30)) fun (t32:Bool)=>
 ifB t32
 (
  lett (fun (t4_44:AV) (t6_45:AV) (h_46:AHeap)=>
   lett (IntKind.i64.wrap (t31+1)) fun (t218:Int)=>
   self t4_44 t6_45 t218 h_46) fun k43=>
  obind (idxP 26 t0 t31) fun t33=>
  obind (ldRow h_37 26 t33) fun t34=>
  lett (newH h_37 51 [.int .i64 0,.int .i64 0,.int .u8 0,.int .i64 0,.int .i64 0,.int .i64 0,.int .i64 0,.int .i64 0,.int .i64 0,.int .i64 0,.bool false,.nsl,.int .i64 0,.int .i64 0,.str 0 0,.int .i64 0,.int .i64 0,.int .i64 0,.int .i64 0,.int .i64 0,.int .i64 0,.int .u8 0,.int .i64 0,.int .i64 0,.str 0 0,.int .i64 0]) fun h_51=>
  obind (stRow h_51 26 t34 (newP h_37)) fun h_53=>
  obind (ldCell h_53 (AV.ptr (AHeap.next h_37) 0)) fun v36=>
  obind (avInt .i64 v36) fun t36=>
  lett ((t36:Int) == 2) fun (t37:Bool)=>
  ifB t37
  (
   obind (ldCell h_53 (AV.ptr (AHeap.next h_37) 1)) fun v40=>
   obind (avInt .i64 v40) fun t40=>
   lett (if 0>t40 then 0 else t40) fun (t41:Int)=>
   callN (call 17 [r21,.int .i64 t41] h_53) fun r42 h_64=>
   obind (avInt .i64 r42) fun _=>
   k43 t4 t6 h_64)
  (
   obind (ldRow h_53 22 (AV.ptr (AHeap.next h_37) 2)) fun t46=>
   callN (call 8 [t4,.agg t46,AV.nilp] h_53) fun r47 h_69=>
   obind (extT 0 r47) fun v48=>
   obind (avAgg v48) fun t48=>
   obind (extT 1 r47) fun v49=>
   obind (avInt .i64 v49) fun t49=>
   lett (newH h_69 33 [.int .u8 0,.int .i64 0,.int .i64 0,.int .i64 0,.int .i64 0,.int .i64 0,.int .i64 0,.int .i64 0,.bool false,.nsl,.int .i64 0,.int .i64 0,.str 0 0,.int .i64 0,.int .i64 0,.int .i64 0,.int .i64 0,.int .i64 0,.int .i64 0,.int .u8 0,.int .i64 0,.int .i64 0]) fun h_75=>
   obind (stRow h_75 22 t48 (newP h_69)) fun h_77=>
   lett ((t49:Int) == 40) fun (t51:Bool)=>
   lett (fun (t56:Bool) (h_82:AHeap)=>
    lett (fun (t4_86:AV) (t10:Int) (h_87:AHeap)=>
     callN (call 15 [t4_86] h_87) fun r78 h_89=>
     obind (extT 0 r78) fun v79=>
     obind (extT 1 r78) fun v80=>
     obind (avBool v80) fun t80=>
     lett (!t80) fun (t82:Bool)=>
     lett (fun (t89:Bool) (h_97:AHeap)=>
      lett (fun (t97:Bool) (h_100:AHeap)=>
       lett (fun (t106:Bool) (h_103:AHeap)=>
        ifB t106
        (
         some (.ret (.bool false),h_103))
        (
         obind (ldCell h_103 (AV.ptr (AHeap.next h_69) 20)) fun v108=>
         obind (avInt .i64 v108) fun t108=>
         lett ((t108:Int) != 0) fun (t109:Bool)=>
         lett (fun (t116:Bool) (h_112:AHeap)=>
          ifB t116
          (
           some (.ret (.bool false),h_112))
          (
           lett (fun (t163:Bool) (h_119:AHeap)=>
            ifB t163
            (
             some (.ret (.bool false),h_119))
            (
             lett (newH h_119 31 [.int .i64 0,.int .i64 0]) fun h_123=>
             obind (lenL v79) fun t165=>
             lett (fun (t13:Int) (h_130:AHeap)=>
              lett ((t10:Int) == 0) fun (t193:Bool)=>
              lett (fun (t198:Bool) (h_134:AHeap)=>
               lett (fun (t216:Bool) (h_137:AHeap)=>
                ifB t216
                (
                 some (.ret (.bool false),h_137))
                (
                 k43 t4_86 v79 h_137)) fun j216=>
               ifB t198
               (
                obind (ldCell h_134 (AV.ptr (AHeap.next h_69) 16)) fun v201=>
                obind (avInt .i64 v201) fun t201=>
                lett ((t201:Int) != t13) fun (t203:Bool)=>
                lett (fun (t215:Bool) (h_144:AHeap)=>
                 j216 t215 h_144) fun j215=>
                ifB t203
                (
                 j215 true h_134)
                (
                 obind (ldCell h_134 (AV.ptr (AHeap.next h_69) 20)) fun v206=>
                 obind (avInt .i64 v206) fun t206=>
                 lett ((t206:Int) == 0) fun (t207:Bool)=>
                 lett (fun (t214:Bool) (h_150:AHeap)=>
                  j215 t214 h_150) fun j214=>
                 ifB t207
                 (
                  obind (ldRow h_134 2 (newP h_119)) fun t209=>
                  obind (ldRow h_134 2 (AV.ptr (AHeap.next h_37) 16)) fun t212=>
                  callN (call 19 [.agg t209,.agg t212] h_134) fun r213 h_155=>
                  obind (avBool r213) fun t213=>
                  j214 t213 h_155)
                 (
                  j214 false h_134)))
               (
                j216 false h_134)) fun j198=>
              ifB t193
              (
               obind (ldCell h_130 (AV.ptr (AHeap.next h_69) 0)) fun v196=>
               obind (avInt .u8 v196) fun t196=>
               lett ((t196:Int) != 0) fun (t197:Bool)=>
               j198 t197 h_130)
              (
               j198 false h_130)) fun k129=>
             law23_GatewayFences_L1 call h_37 v79 h_119 t165 k129 n 0 0 h_123)) fun k118=>
           obind (lenL v79) fun t118=>
           obind (lenL t6) fun t120=>
           lett (decide (t118>t120)) fun (t121:Bool)=>
           ifB t121
           (
            obind (ldCell h_112 (AV.ptr (AHeap.next h_37) 2)) fun v125=>
            obind (avInt .u8 v125) fun t125=>
            lett ((t125:Int) != 9) fun (t126:Bool)=>
            ifB t126
            (
             k118 true h_112)
            (
             obind (lenL t6) fun t130=>
             obind (idxP 5 v79 t130) fun t131=>
             obind (fldP 4 t131) fun t132=>
             obind (ldCell h_112 t132) fun v133=>
             obind (avStr v133) fun t133=>
             obind (ldCell h_112 (AV.ptr (AHeap.next h_37) 14)) fun v136=>
             obind (avStr v136) fun t136=>
             lett (!eqS t133 t136) fun (t137:Bool)=>
             ifB t137
             (
              k118 true h_112)
             (
              obind (lenL t6) fun t142=>
              obind (idxP 5 v79 t142) fun t143=>
              obind (fldP 3 t143) fun t144=>
              obind (ldCell h_112 t144) fun v145=>
              obind (avInt .i64 v145) fun t145=>
              obind (ldCell h_112 (AV.ptr (AHeap.next h_37) 18)) fun v148=>
              obind (avInt .i64 v148) fun t148=>
              lett ((t145:Int) != t148) fun (t149:Bool)=>
              ifB t149
              (
               k118 true h_112)
              (
               obind (lenL t6) fun t154=>
               obind (idxP 5 v79 t154) fun t155=>
               obind (fldP 1 t155) fun t156=>
               obind (ldRow h_112 2 t156) fun t157=>
               obind (ldRow h_112 2 (AV.ptr (AHeap.next h_37) 16)) fun t160=>
               obind (eqOther Try.prog 31 (.agg t157) (.agg t160)) fun t161=>
               lett (!t161) fun (t161_234:Bool)=>
               k118 t161_234 h_112))))
           (
            k118 false h_112))) fun j116=>
         ifB t109
         (
          obind (lenL v79) fun t112=>
          obind (lenL t6) fun t114=>
          lett ((t112:Int) != t114) fun (t115:Bool)=>
          j116 t115 h_103)
         (
          j116 false h_103))) fun j106=>
       ifB t97
       (
        j106 true h_100)
       (
        obind (lenL t6) fun t101=>
        outK (sliceA Try.prog h_100 45 v79 none (some (.int .i64 t101))) fun v102 h_240=>
        callN (call 18 [v102,t6] h_240) fun r104 h_242=>
        obind (avBool r104) fun t104=>
        lett (!t104) fun (t105:Bool)=>
        j106 t105 h_242)) fun j97=>
      ifB t89
      (
       j97 true h_97)
      (
       obind (lenL v79) fun t92=>
       obind (lenL t6) fun t94=>
       lett (IntKind.i64.wrap (t94+1)) fun (t95:Int)=>
       lett (decide (t92>t95)) fun (t96:Bool)=>
       j97 t96 h_97)) fun j89=>
     ifB t82
     (
      j89 true h_89)
     (
      obind (lenL v79) fun t85=>
      obind (lenL t6) fun t87=>
      lett (decide (t85<t87)) fun (t88:Bool)=>
      j89 t88 h_89)) fun k85=>
    ifB t56
    (
     obind (ldCell h_82 (AV.ptr (AHeap.next h_37) 25)) fun v59=>
     obind (avInt .i64 v59) fun t59=>
     outK (bldSl Try.prog h_82 53 1 [(0,.int .i64 t59)]) fun v60 h_256=>
     obind (ldCell h_256 (AV.ptr (AHeap.next h_37) 1)) fun v62=>
     obind (avInt .i64 v62) fun t62=>
     callN (call 14 [r21,v60,.int .i64 t62] h_256) fun r63 h_260=>
     obind (avInt .i64 r63) fun _=>
     callN (call 7 [r21] h_260) fun r66 h_264=>
     obind (extT 0 r66) fun v67=>
     obind (extT 1 r66) fun v68=>
     obind (avInt .i64 v68) fun t68=>
     lett ((t68:Int) != 0) fun (t70:Bool)=>
     lett (fun (t74:Bool) (h_272:AHeap)=>
      ifB t74
      (
       some (.ret (.bool false),h_272))
      (
       obind (stRow h_272 22 ([.int .u8 0,.int .i64 0,.int .i64 0,.int .i64 0,.int .i64 0,.int .i64 0,.int .i64 0,.int .i64 0,.bool false,.nsl,.int .i64 0,.int .i64 0,.str 0 0,.int .i64 0,.int .i64 0,.int .i64 0,.int .i64 0,.int .i64 0,.int .i64 0,.int .u8 0,.int .i64 0,.int .i64 0]:List AV) (newP h_69)) fun h_276=>
       k85 v67 t68 h_276)) fun j74=>
     ifB t70
     (
      j74 true h_264)
     (
      outK (opBin Try.prog h_264 .eql 25 true (some v67) (some AV.nilp)) fun v73 h_278=>
      obind (avBool v73) fun t73=>
      j74 t73 h_278))
    (
     k85 t4 t49 h_82)) fun j56=>
   ifB t51
   (
    j56 true h_77)
   (
    obind (ldCell h_77 (AV.ptr (AHeap.next h_37) 0)) fun v54=>
    obind (avInt .i64 v54) fun t54=>
    lett ((t54:Int) == 3) fun (t55:Bool)=>
    j56 t55 h_77)))
 (
  k33 h_37)
noncomputable def law23_GatewayFences_L0(call:CallF)(n:Nat)(t0:AV)(r21:AV)(t30:Int)(k33:AHeap→R):Nat→AV→AV→Int→AHeap→R:=iterR (fun _ _ _ _=>none) (law23_GatewayFences_L0b call n t0 r21 t30 k33)
theorem law23_GatewayFences_L0_s(call:CallF)(n:Nat)(t0:AV)(r21:AV)(t30:Int)(k33:AHeap→R)(m:Nat):law23_GatewayFences_L0 call n t0 r21 t30 k33 (m+1)=law23_GatewayFences_L0b call n t0 r21 t30 k33 (law23_GatewayFences_L0 call n t0 r21 t30 k33 m):=rfl
noncomputable def law23_GatewayFences(call:CallF)(n:Nat)(t0:AV)(h:AHeap):R:=callN (call 5 [] h) fun r17 h_4=>obind (avBool r17) fun t17=>lett (!t17) fun (t18:Bool)=>ifB t18 (some (.ret (.bool false),h_4)) (callN (call 16 [t0] h_4) fun r20 h_11=>obind (avBool r20) fun t20=>ifB t20 (some (.ret (.bool true),h_11)) (callN (call 6 [] h_11) fun r21 h_16=>callN (call 7 [r21] h_16) fun r24 h_19=>obind (extT 0 r24) fun v25=>obind (extT 1 r24) fun v26=>obind (avInt .i64 v26) fun t26=>lett ((t26:Int) != 0) fun (t28:Bool)=>ifB t28 (some (.ret (.bool false),h_19)) (obind (lenL t0) fun t30=>lett (fun (h_34:AHeap)=>some (.ret (.bool true),h_34)) fun k33=>law23_GatewayFences_L0 call n t0 r21 t30 k33 n v25 AV.nsl 0 h_19)))
set_option maxHeartbeats 4000000 in
set_option maxRecDepth 20000 in
theorem law23_GatewayFences_ok{call:CallF}(hc:SaysAll Try.prog call){n:Nat}{t0:AV}{h:AHeap}{rR:ARes}{hR:AHeap}(hF:law23_GatewayFences call n t0 h=some (rR,hR)):Says Try.prog 4 [t0] h rR hR:=by
 unfold law23_GatewayFences at hF;refine sO Try.func4 fun w0 m0=>wW [(0,t0)] (oG fun n1=>W.r (oA 2 (.bool false) (oV [(0,t0)] (n1 (oH fun n2 q2=>oG fun n3=>W.r (oCb hc 17 hF fun t17 h_4 hF=>oB 18 hF fun t18 hF=>oV [(0,t0),(18,.bool t18)] (n3 ?_)))))))
 cases t18 with
 |true=>
  exact oT hF fun hF=>oG fun n8=>W.r (oA 2 (.bool false) (oV [(2,.bool false)] (n8 (oY (q2 (lZ hF [.tmp 2] [.bool false] (rT res_nil)))))))
 |false=>
  refine oU hF fun hF=>oZ (n2 (oH fun n9 q9=>oG fun n10=>W.r (oA 19 t0 (oCb hc 20 hF fun t20 h_11 hF=>oV [(0,t0),(20,.bool t20)] (n10 ?_)))))
  cases t20 with
  |true=>
   exact oT hF fun hF=>oG fun n14=>W.r (oA 2 (.bool true) (oV [(2,.bool true)] (n14 (oY (q9 (lZ hF [.tmp 2] [.bool true] (rT res_nil)))))))
  |false=>
   refine oU hF fun hF=>oZ (n9 (oG fun n15=>W.r (oC hc (some 21) hF fun r21 h_16 hF=>oA 3 r21 (oV [(0,t0),(3,r21)] (n15 (oG fun n18=>W.r (oA 23 r21 (oC hc (some 24) hF fun r24 h_19 hF=>oA 22 r24 (oE 25 hF fun v25 hF=>oEi 26 hF fun t26 hF=>oA 4 v25 (oA 5 (.int .i64 t26) (oV [(0,t0),(3,r21),(4,v25),(5,.int .i64 t26)] (n18 (oH fun n24 q24=>oG fun n25=>W.r (oA 27 (.int .i64 t26) (oB 28 hF fun t28 hF=>oV [(0,t0),(3,r21),(4,v25),(28,.bool t28)] (n25 ?_))))))))))))))))
   cases t28 with
   |true=>
    exact oT hF fun hF=>oG fun n27=>W.r (oA 2 (.bool false) (oV [(2,.bool false)] (n27 (oY (q24 (lZ hF [.tmp 2] [.bool false] (rT res_nil)))))))
   |false=>
    refine oU hF fun hF=>oZ (n24 (oG fun n28=>W.r (oA 6 AV.nsl (oV [(0,t0),(3,r21),(4,v25),(6,AV.nsl)] (n28 (W.s (fun K29 n29 e29 q29 p29=>oG fun n30=>W.r (oA 29 t0 (oM 30 48 51 hF fun t30 hF=>oA 31 (.int .i64 0) (oV [(3,r21),(4,v25),(6,AV.nsl),(29,t0),(30,.int .i64 t30),(31,.int .i64 0)] (n30 ?_)))))))))));obtain⟨k33,e33,hF⟩:=lett_some hF
    have J33:∀(h_34:AHeap),k33 h_34=some (rR,hR)→Go w0 m0 (Func.ntmps Try.f4) (K29 .normal) [] [] h_34:=by
     intro h_34 hF;rw[e33] at hF;exact n29 (oG fun n35=>W.r (oA 2 (.bool true) (oV [(2,.bool true)] (n35 (oY (lZ hF [.tmp 2] [.bool true] (rT res_nil)))))))
    refine W.blockK (by kernel_rfl) (fun K32 n32 s32 o32 q32 p32=>W.loopK (by kernel_rfl) (fun I36 K36 b36 n36 e36 q36 p36=>?_))
    have L36:∀(m:Nat) (t4:AV) (t6:AV) (t31:Int) (h_37:AHeap),law23_GatewayFences_L0 call n t0 r21 t30 k33 m t4 t6 t31 h_37=some (rR,hR)→Go w0 m0 (Func.ntmps Try.f4) I36 [(3,r21),(4,t4),(6,t6),(29,t0),(30,.int .i64 t30),(31,.int .i64 t31)] [] h_37:=by
     intro m
     induction m with
     |zero=>intro t4 t6 t31 h_37 hF;cases hF
     |succ m ih36=>
      intro t4 t6 t31 h_37 hF;rw[law23_GatewayFences_L0_s] at hF;unfold law23_GatewayFences_L0b at hF;refine b36 (oG fun n38=>W.r (oB 32 hF fun t32 hF=>oV [(3,r21),(4,t4),(6,t6),(29,t0),(30,.int .i64 t30),(31,.int .i64 t31),(32,.bool t32)] (n38 (W.s (fun K40 n40 e40 q40 p40=>?_)))))
      cases t32 with
      |true=>
       refine oT hF fun hF=>oZ (n40 (W.s (fun K41 n41 e41 q41 p41=>?_)));obtain⟨k43,e43,hF⟩:=lett_some hF
       have J43:∀(t4_44:AV) (t6_45:AV) (h_46:AHeap),k43 t4_44 t6_45 h_46=some (rR,hR)→Go w0 m0 (Func.ntmps Try.f4) (K41 .normal) [(3,r21),(4,t4_44),(6,t6_45),(29,t0),(30,.int .i64 t30),(31,.int .i64 t31)] [] h_46:=by
        intro t4_44 t6_45 h_46 hF;rw[e43] at hF;exact n41 (W.r (oI 218 .i64 hF fun t218 hF=>oA 31 (.int .i64 t218) (oV [(3,r21),(4,t4_44),(6,t6_45),(29,t0),(30,.int .i64 t30),(31,.int .i64 t218)] (n36 (gW _ (ih36 _ _ _ _ hF))))))
       refine W.blockK (by kernel_rfl) (fun K42 n42 s42 o42 q42 p42=>oG fun n48=>W.r (oP 33 48 51 .i64 hF fun t33 hF=>oR 34 51 hF fun t34 hF=>oN 8 hF fun h_51 hF=>oW 51 (.agg t34) hF fun h_53 hF=>oV [(3,r21),(4,t4),(6,t6),(8,(newP h_37)),(29,t0),(30,.int .i64 t30),(31,.int .i64 t31)] (n48 (W.s (fun K55 n55 e55 q55 p55=>oG fun n56=>W.r (oA 35 (AV.ptr (AHeap.next h_37) 0) (oLi 36 3 hF fun t36 hF=>oB 37 hF fun t37 hF=>oV [(3,r21),(4,t4),(6,t6),(8,(newP h_37)),(29,t0),(30,.int .i64 t30),(31,.int .i64 t31),(37,.bool t37)] (n56 ?_))))))))
       cases t37 with
       |true=>
        exact oT hF fun hF=>oG fun n60=>W.r (oA 38 r21 (oA 39 (AV.ptr (AHeap.next h_37) 1) (oLi 40 3 hF fun t40 hF=>oI 41 .i64 hF fun t41 hF=>oCi hc 42 hF fun t42 h_64 hF=>oV [(3,r21),(4,t4),(6,t6),(29,t0),(30,.int .i64 t30),(31,.int .i64 t31)] (n60 (W.exit (by kernel_rfl) (e55 (s42 (by kernel_rfl) (gW _ (J43 _ _ _ hF)))))))))
       |false=>
        refine oU hF fun hF=>oZ (n55 (oG fun n67=>W.r (oA 44 t4 (oA 45 (AV.ptr (AHeap.next h_37) 2) (oR 46 33 hF fun t46 hF=>oC hc (some 47) hF fun r47 h_69 hF=>oA 43 r47 (oEa 48 hF fun t48 hF=>oEi 49 hF fun t49 hF=>oN 9 hF fun h_75 hF=>oW 33 (.agg t48) hF fun h_77 hF=>oA 10 (.int .i64 t49) (oV [(3,r21),(4,t4),(6,t6),(8,(newP h_37)),(9,(newP h_69)),(10,.int .i64 t49),(29,t0),(30,.int .i64 t30),(31,.int .i64 t31)] (n67 (W.s (fun K79 n79 e79 q79 p79=>W.s (fun K80 n80 e80 q80 p80=>W.r (oA 50 (.int .i64 t49) (oB 51 hF fun t51 hF=>oA 52 (.bool t51) ?_)))))))))))));obtain⟨j56,e83,hF⟩:=lett_some hF
        have J84:∀(t56:Bool) (h_82:AHeap),j56 t56 h_82=some (rR,hR)→WL Try.prog w0 m0 (Func.ntmps Try.f4) (Code.ops (y6 (y6 (y3 (y3 (y3 (y6 (y6 (y3 (y3 (y6 (y6 (y3 (y6 (y3 (y3 (y3 (y3 (y3 (y3 (y3 (codeOf Try.f4)))))))))))))))))))))) 7 K80 [(3,r21),(4,t4),(6,t6),(8,(newP h_37)),(9,(newP h_69)),(10,.int .i64 t49),(29,t0),(30,.int .i64 t30),(31,.int .i64 t31),(56,.bool t56)] [] h_82:=by
         intro t56 h_82 hF;rw[e83] at hF;refine oV [(3,r21),(4,t4),(6,t6),(8,(newP h_37)),(9,(newP h_69)),(10,.int .i64 t49),(29,t0),(30,.int .i64 t30),(31,.int .i64 t31),(56,.bool t56)] (n80 ?_);obtain⟨k85,e85,hF⟩:=lett_some hF
         have J85:∀(t4_86:AV) (t10:Int) (h_87:AHeap),k85 t4_86 t10 h_87=some (rR,hR)→Go w0 m0 (Func.ntmps Try.f4) (K79 .normal) [(3,r21),(4,t4_86),(6,t6),(8,(newP h_37)),(9,(newP h_69)),(10,.int .i64 t10),(29,t0),(30,.int .i64 t30),(31,.int .i64 t31)] [] h_87:=by
          intro t4_86 t10 h_87 hF;rw[e85] at hF;refine n79 (oG fun n88=>W.r (oA 77 t4_86 (oC hc (some 78) hF fun r78 h_89 hF=>oA 76 r78 (oE 79 hF fun v79 hF=>oEb 80 hF fun t80 hF=>oA 11 v79 (oA 12 (.bool t80) (oV [(3,r21),(4,t4_86),(6,t6),(8,(newP h_37)),(9,(newP h_69)),(10,.int .i64 t10),(11,v79),(12,.bool t80),(29,t0),(30,.int .i64 t30),(31,.int .i64 t31)] (n88 (oH fun n94 q94=>W.s (fun K95 n95 e95 q95 p95=>W.r (oA 81 (.bool t80) (oB 82 hF fun t82 hF=>oA 83 (.bool t82) ?_)))))))))));obtain⟨j89,e98,hF⟩:=lett_some hF
          have J99:∀(t89:Bool) (h_97:AHeap),j89 t89 h_97=some (rR,hR)→WL Try.prog w0 m0 (Func.ntmps Try.f4) (Code.ops (y6 (y6 (y3 (y3 (y3 (y3 (y3 (y6 (y6 (y3 (y3 (y6 (y6 (y3 (y6 (y3 (y3 (y3 (y3 (y3 (y3 (y3 (codeOf Try.f4)))))))))))))))))))))))) 9 K95 [(3,r21),(4,t4_86),(6,t6),(8,(newP h_37)),(9,(newP h_69)),(10,.int .i64 t10),(11,v79),(29,t0),(30,.int .i64 t30),(31,.int .i64 t31),(89,.bool t89)] [] h_97:=by
           intro t89 h_97 hF;rw[e98] at hF;refine oA 90 (.bool t89) ?_;obtain⟨j97,e101,hF⟩:=lett_some hF
           have J102:∀(t97:Bool) (h_100:AHeap),j97 t97 h_100=some (rR,hR)→WL Try.prog w0 m0 (Func.ntmps Try.f4) (Code.ops (y6 (y6 (y3 (y3 (y3 (y3 (y3 (y6 (y6 (y3 (y3 (y6 (y6 (y3 (y6 (y3 (y3 (y3 (y3 (y3 (y3 (y3 (codeOf Try.f4)))))))))))))))))))))))) 17 K95 [(3,r21),(4,t4_86),(6,t6),(8,(newP h_37)),(9,(newP h_69)),(10,.int .i64 t10),(11,v79),(29,t0),(30,.int .i64 t30),(31,.int .i64 t31),(97,.bool t97)] [] h_100:=by
            intro t97 h_100 hF;rw[e101] at hF;refine oA 98 (.bool t97) ?_;obtain⟨j106,e104,hF⟩:=lett_some hF
            have J105:∀(t106:Bool) (h_103:AHeap),j106 t106 h_103=some (rR,hR)→WL Try.prog w0 m0 (Func.ntmps Try.f4) (Code.ops (y6 (y6 (y3 (y3 (y3 (y3 (y3 (y6 (y6 (y3 (y3 (y6 (y6 (y3 (y6 (y3 (y3 (y3 (y3 (y3 (y3 (y3 (codeOf Try.f4)))))))))))))))))))))))) 26 K95 [(3,r21),(4,t4_86),(6,t6),(8,(newP h_37)),(9,(newP h_69)),(10,.int .i64 t10),(11,v79),(29,t0),(30,.int .i64 t30),(31,.int .i64 t31),(106,.bool t106)] [] h_103:=by
             intro t106 h_103 hF;rw[e104] at hF;refine oV [(3,r21),(4,t4_86),(6,t6),(8,(newP h_37)),(9,(newP h_69)),(10,.int .i64 t10),(11,v79),(29,t0),(30,.int .i64 t30),(31,.int .i64 t31),(106,.bool t106)] (n95 ?_)
             cases t106 with
             |true=>
              exact oT hF fun hF=>oG fun n106=>W.r (oA 2 (.bool false) (oV [(2,.bool false)] (n106 (oY (q94 (q42 (q41 (q36 (q32 (q29 (lZ hF [.tmp 2] [.bool false] (rT res_nil))))))))))))
             |false=>
              refine oU hF fun hF=>oZ (n94 (oH fun n107 q107=>W.s (fun K108 n108 e108 q108 p108=>W.r (oA 107 (AV.ptr (AHeap.next h_69) 20) (oLi 108 26 hF fun t108 hF=>oB 109 hF fun t109 hF=>oA 110 (.bool t109) ?_)))));obtain⟨j116,e113,hF⟩:=lett_some hF
              have J114:∀(t116:Bool) (h_112:AHeap),j116 t116 h_112=some (rR,hR)→WL Try.prog w0 m0 (Func.ntmps Try.f4) (Code.ops (y6 (y6 (y3 (y3 (y3 (y3 (y3 (y3 (y6 (y6 (y3 (y3 (y6 (y6 (y3 (y6 (y3 (y3 (y3 (y3 (y3 (y3 (y3 (codeOf Try.f4))))))))))))))))))))))))) 10 K108 [(3,r21),(4,t4_86),(6,t6),(8,(newP h_37)),(9,(newP h_69)),(10,.int .i64 t10),(11,v79),(29,t0),(30,.int .i64 t30),(31,.int .i64 t31),(116,.bool t116)] [] h_112:=by
               intro t116 h_112 hF;rw[e113] at hF;refine oV [(3,r21),(4,t4_86),(6,t6),(8,(newP h_37)),(9,(newP h_69)),(10,.int .i64 t10),(11,v79),(29,t0),(30,.int .i64 t30),(31,.int .i64 t31),(116,.bool t116)] (n108 ?_)
               cases t116 with
               |true=>
                exact oT hF fun hF=>oG fun n115=>W.r (oA 2 (.bool false) (oV [(2,.bool false)] (n115 (oY (q107 (q42 (q41 (q36 (q32 (q29 (lZ hF [.tmp 2] [.bool false] (rT res_nil))))))))))))
               |false=>
                refine oU hF fun hF=>oZ (n107 (oH fun n116 q116=>W.s (fun K117 n117 e117 q117 p117=>?_)));obtain⟨k118,e118,hF⟩:=lett_some hF
                have J118:∀(t163:Bool) (h_119:AHeap),k118 t163 h_119=some (rR,hR)→Go w0 m0 (Func.ntmps Try.f4) (K117 .normal) [(3,r21),(4,t4_86),(8,(newP h_37)),(9,(newP h_69)),(10,.int .i64 t10),(11,v79),(29,t0),(30,.int .i64 t30),(31,.int .i64 t31),(163,.bool t163)] [] h_119:=by
                 intro t163 h_119 hF;rw[e118] at hF;refine n117 ?_
                 cases t163 with
                 |true=>
                  exact oT hF fun hF=>oG fun n120=>W.r (oA 2 (.bool false) (oV [(2,.bool false)] (n120 (oY (q116 (q42 (q41 (q36 (q32 (q29 (lZ hF [.tmp 2] [.bool false] (rT res_nil))))))))))))
                 |false=>
                  refine oU hF fun hF=>oZ (n116 (oG fun n121=>W.r (oA 13 (.int .i64 0) (oV [(3,r21),(4,t4_86),(8,(newP h_37)),(9,(newP h_69)),(10,.int .i64 t10),(11,v79),(13,.int .i64 0),(29,t0),(30,.int .i64 t30),(31,.int .i64 t31)] (n121 (oG fun n122=>W.r (oN 14 hF fun h_123 hF=>oV [(3,r21),(4,t4_86),(8,(newP h_37)),(9,(newP h_69)),(10,.int .i64 t10),(11,v79),(13,.int .i64 0),(14,(newP h_119)),(29,t0),(30,.int .i64 t30),(31,.int .i64 t31)] (n122 (W.s (fun K125 n125 e125 q125 p125=>oG fun n126=>W.r (oA 164 v79 (oM 165 45 56 hF fun t165 hF=>oA 166 (.int .i64 0) (oV [(3,r21),(4,t4_86),(8,(newP h_37)),(9,(newP h_69)),(10,.int .i64 t10),(11,v79),(13,.int .i64 0),(14,(newP h_119)),(29,t0),(30,.int .i64 t30),(31,.int .i64 t31),(164,v79),(165,.int .i64 t165),(166,.int .i64 0)] (n126 ?_))))))))))))));obtain⟨k129,e129,hF⟩:=lett_some hF
                  have J129:∀(t13:Int) (h_130:AHeap),k129 t13 h_130=some (rR,hR)→Go w0 m0 (Func.ntmps Try.f4) (K125 .normal) [(3,r21),(4,t4_86),(8,(newP h_37)),(9,(newP h_69)),(10,.int .i64 t10),(11,v79),(13,.int .i64 t13),(14,(newP h_119)),(29,t0),(30,.int .i64 t30),(31,.int .i64 t31)] [] h_130:=by
                   intro t13 h_130 hF;rw[e129] at hF;refine n125 (oH fun n131 q131=>W.s (fun K132 n132 e132 q132 p132=>W.r (oA 192 (.int .i64 t10) (oB 193 hF fun t193 hF=>oA 194 (.bool t193) ?_))));obtain⟨j198,e135,hF⟩:=lett_some hF
                   have J136:∀(t198:Bool) (h_134:AHeap),j198 t198 h_134=some (rR,hR)→WL Try.prog w0 m0 (Func.ntmps Try.f4) (Code.ops (y6 (y6 (y3 (y3 (y3 (y3 (y3 (y3 (y3 (y3 (y3 (y3 (y3 (y6 (y6 (y3 (y3 (y6 (y6 (y3 (y6 (y3 (y3 (y3 (y3 (y3 (y3 (y3 (codeOf Try.f4)))))))))))))))))))))))))))))) 7 K132 [(3,r21),(4,t4_86),(8,(newP h_37)),(9,(newP h_69)),(11,v79),(13,.int .i64 t13),(14,(newP h_119)),(29,t0),(30,.int .i64 t30),(31,.int .i64 t31),(198,.bool t198)] [] h_134:=by
                    intro t198 h_134 hF;rw[e135] at hF;refine oA 199 (.bool t198) ?_;obtain⟨j216,e138,hF⟩:=lett_some hF
                    have J139:∀(t216:Bool) (h_137:AHeap),j216 t216 h_137=some (rR,hR)→WL Try.prog w0 m0 (Func.ntmps Try.f4) (Code.ops (y6 (y6 (y3 (y3 (y3 (y3 (y3 (y3 (y3 (y3 (y3 (y3 (y3 (y6 (y6 (y3 (y3 (y6 (y6 (y3 (y6 (y3 (y3 (y3 (y3 (y3 (y3 (y3 (codeOf Try.f4)))))))))))))))))))))))))))))) 25 K132 [(3,r21),(4,t4_86),(11,v79),(29,t0),(30,.int .i64 t30),(31,.int .i64 t31),(216,.bool t216)] [] h_137:=by
                     intro t216 h_137 hF;rw[e138] at hF;refine oV [(3,r21),(4,t4_86),(11,v79),(29,t0),(30,.int .i64 t30),(31,.int .i64 t31),(216,.bool t216)] (n132 ?_)
                     cases t216 with
                     |true=>
                      exact oT hF fun hF=>oG fun n140=>W.r (oA 2 (.bool false) (oV [(2,.bool false)] (n140 (oY (q131 (q42 (q41 (q36 (q32 (q29 (lZ hF [.tmp 2] [.bool false] (rT res_nil))))))))))))
                     |false=>
                      exact oU hF fun hF=>oZ (n131 (W.r (oA 217 v79 (oA 6 v79 (oV [(3,r21),(4,t4_86),(6,v79),(29,t0),(30,.int .i64 t30),(31,.int .i64 t31)] (n42 (gW _ (J43 _ _ _ hF))))))))
                    cases t198 with
                    |true=>
                     replace hF:=ifB_t hF
                     refine oA 200 (AV.ptr (AHeap.next h_69) 16) (oLi 201 3 hF fun t201 hF=>oA 202 (.int .i64 t13) (oB 203 hF fun t203 hF=>oA 204 (.bool t203) ?_));obtain⟨j215,e145,hF⟩:=lett_some hF
                     have J146:∀(t215:Bool) (h_144:AHeap),j215 t215 h_144=some (rR,hR)→WL Try.prog w0 m0 (Func.ntmps Try.f4) (Code.ops (y6 (y6 (y3 (y3 (y3 (y3 (y3 (y3 (y3 (y3 (y3 (y3 (y3 (y6 (y6 (y3 (y3 (y6 (y6 (y3 (y6 (y3 (y3 (y3 (y3 (y3 (y3 (y3 (codeOf Try.f4)))))))))))))))))))))))))))))) 24 K132 [(3,r21),(4,t4_86),(11,v79),(29,t0),(30,.int .i64 t30),(31,.int .i64 t31),(199,.bool true),(215,.bool t215)] [] h_144:=by
                      intro t215 h_144 hF;rw[e145] at hF;exact oA 216 (.bool t215) (lW _ (J139 _ _ hF))
                     cases t203 with
                     |true=>
                      replace hF:=ifB_t hF
                      exact WL.o (some 205) (WL.o (some 206) (WL.o (some 207) (WL.o (some 208) (WL.o (some 209) (WL.o (some 210) (WL.o (some 211) (WL.o (some 212) (WL.o (some 213) (WL.o (some 214) (oA 215 (.bool true) (lW _ (J146 _ _ hF))))))))))))
                     |false=>
                      replace hF:=ifB_f hF
                      refine oA 205 (AV.ptr (AHeap.next h_69) 20) (oLi 206 26 hF fun t206 hF=>oB 207 hF fun t207 hF=>oA 208 (.bool t207) ?_);obtain⟨j214,e151,hF⟩:=lett_some hF
                      have J152:∀(t214:Bool) (h_150:AHeap),j214 t214 h_150=some (rR,hR)→WL Try.prog w0 m0 (Func.ntmps Try.f4) (Code.ops (y6 (y6 (y3 (y3 (y3 (y3 (y3 (y3 (y3 (y3 (y3 (y3 (y3 (y6 (y6 (y3 (y3 (y6 (y6 (y3 (y6 (y3 (y3 (y3 (y3 (y3 (y3 (y3 (codeOf Try.f4)))))))))))))))))))))))))))))) 23 K132 [(3,r21),(4,t4_86),(11,v79),(29,t0),(30,.int .i64 t30),(31,.int .i64 t31),(199,.bool true),(204,.bool false),(214,.bool t214)] [] h_150:=by
                       intro t214 h_150 hF;rw[e151] at hF;exact oA 215 (.bool t214) (lW _ (J146 _ _ hF))
                      cases t207 with
                      |true=>
                       replace hF:=ifB_t hF
                       exact oR 209 31 hF fun t209 hF=>oA 210 (AV.ptr (AHeap.next h_37) 2) (oA 211 (AV.ptr (AHeap.next h_37) 16) (oR 212 31 hF fun t212 hF=>oCb hc 213 hF fun t213 h_155 hF=>oA 214 (.bool t213) (lW _ (J152 _ _ hF))))
                      |false=>
                       replace hF:=ifB_f hF
                       exact WL.o (some 209) (WL.o (some 210) (WL.o (some 211) (WL.o (some 212) (WL.o (some 213) (oA 214 (.bool false) (lW _ (J152 _ _ hF)))))))
                    |false=>
                     replace hF:=ifB_f hF
                     exact WL.o (some 200) (WL.o (some 201) (WL.o (some 202) (WL.o (some 203) (WL.o (some 204) (WL.o (some 205) (WL.o (some 206) (WL.o (some 207) (WL.o (some 208) (WL.o (some 209) (WL.o (some 210) (WL.o (some 211) (WL.o (some 212) (WL.o (some 213) (WL.o (some 214) (WL.o (some 215) (oA 216 (.bool false) (lW _ (J139 _ _ hF))))))))))))))))))
                   cases t193 with
                   |true=>
                    replace hF:=ifB_t hF
                    exact oA 195 (AV.ptr (AHeap.next h_69) 0) (oLi 196 5 hF fun t196 hF=>oB 197 hF fun t197 hF=>oA 198 (.bool t197) (lW _ (J136 _ _ hF)))
                   |false=>
                    replace hF:=ifB_f hF
                    exact WL.o (some 195) (WL.o (some 196) (WL.o (some 197) (oA 198 (.bool false) (lW _ (J136 _ _ hF)))))
                  refine W.blockK (by kernel_rfl) (fun K128 n128 s128 o128 q128 p128=>W.loopK (by kernel_rfl) (fun I161 K161 b161 n161 e161 q161 p161=>?_))
                  have L161:∀(m:Nat) (t13_162:Int) (t166:Int) (h_163:AHeap),law23_GatewayFences_L1 call h_37 v79 h_119 t165 k129 m t13_162 t166 h_163=some (rR,hR)→Go w0 m0 (Func.ntmps Try.f4) I161 [(3,r21),(4,t4_86),(8,(newP h_37)),(9,(newP h_69)),(10,.int .i64 t10),(11,v79),(13,.int .i64 t13_162),(14,(newP h_119)),(29,t0),(30,.int .i64 t30),(31,.int .i64 t31),(164,v79),(165,.int .i64 t165),(166,.int .i64 t166)] [] h_163:=by
                   intro m
                   induction m with
                   |zero=>intro t13_162 t166 h_163 hF;cases hF
                   |succ m ih161=>
                    intro t13_162 t166 h_163 hF;rw[law23_GatewayFences_L1_s] at hF;unfold law23_GatewayFences_L1b at hF;refine b161 (oG fun n164=>W.r (oB 167 hF fun t167 hF=>oV [(3,r21),(4,t4_86),(8,(newP h_37)),(9,(newP h_69)),(10,.int .i64 t10),(11,v79),(13,.int .i64 t13_162),(14,(newP h_119)),(29,t0),(30,.int .i64 t30),(31,.int .i64 t31),(164,v79),(165,.int .i64 t165),(166,.int .i64 t166),(167,.bool t167)] (n164 (W.s (fun K166 n166 e166 q166 p166=>?_)))))
                    cases t167 with
                    |true=>
                     refine oT hF fun hF=>oZ (n166 (oH fun n167 q167=>W.blockK (by kernel_rfl) (fun K168 n168 s168 o168 q168 p168=>oG fun n169=>W.r (oP 168 45 56 .i64 hF fun t168 hF=>oR 169 56 hF fun t169 hF=>oN 16 hF fun h_172 hF=>oW 56 (.agg t169) hF fun h_174 hF=>oV [(3,r21),(4,t4_86),(8,(newP h_37)),(9,(newP h_69)),(10,.int .i64 t10),(11,v79),(13,.int .i64 t13_162),(14,(newP h_119)),(16,(newP h_163)),(29,t0),(30,.int .i64 t30),(31,.int .i64 t31),(164,v79),(165,.int .i64 t165),(166,.int .i64 t166)] (n169 (oG fun n176=>W.r (oA 170 (AV.ptr (AHeap.next h_163) 0) (oLi 171 3 hF fun t171 hF=>oA 172 (AV.ptr (AHeap.next h_37) 2) (oA 173 (AV.ptr (AHeap.next h_37) 15) (oLi 174 3 hF fun t174 hF=>oB 175 hF fun t175 hF=>oV [(3,r21),(4,t4_86),(8,(newP h_37)),(9,(newP h_69)),(10,.int .i64 t10),(11,v79),(13,.int .i64 t13_162),(14,(newP h_119)),(16,(newP h_163)),(29,t0),(30,.int .i64 t30),(31,.int .i64 t31),(164,v79),(165,.int .i64 t165),(166,.int .i64 t166),(175,.bool t175)] (n176 ?_)))))))))));obtain⟨k182,e182,hF⟩:=lett_some hF
                     have J182:∀(t13_183:Int) (h_184:AHeap),k182 t13_183 h_184=some (rR,hR)→Go w0 m0 (Func.ntmps Try.f4) (K168 .normal) [(3,r21),(4,t4_86),(8,(newP h_37)),(9,(newP h_69)),(10,.int .i64 t10),(11,v79),(13,.int .i64 t13_183),(14,(newP h_119)),(29,t0),(30,.int .i64 t30),(31,.int .i64 t31),(164,v79),(165,.int .i64 t165),(166,.int .i64 t166)] [] h_184:=by
                      intro t13_183 h_184 hF;rw[e182] at hF;exact n168 (n167 (W.r (oI 191 .i64 hF fun t191 hF=>oA 166 (.int .i64 t191) (oV [(3,r21),(4,t4_86),(8,(newP h_37)),(9,(newP h_69)),(10,.int .i64 t10),(11,v79),(13,.int .i64 t13_183),(14,(newP h_119)),(29,t0),(30,.int .i64 t30),(31,.int .i64 t31),(164,v79),(165,.int .i64 t165),(166,.int .i64 t191)] (n161 (gW _ (ih161 _ _ _ hF)))))))
                     cases t175 with
                     |true=>
                      refine oT hF fun hF=>oH fun n186 q186=>W.s (fun K187 n187 e187 q187 p187=>W.r (oA 176 (AV.ptr (AHeap.next h_163) 3) (oLi 177 3 hF fun t177 hF=>oA 178 (.int .i64 t13_162) (oI 179 .i64 hF fun t179 hF=>oB 180 hF fun t180 hF=>oA 181 (.bool t180) ?_))));obtain⟨j186,e193,hF⟩:=lett_some hF
                      have J194:∀(t186:Bool) (h_192:AHeap),j186 t186 h_192=some (rR,hR)→WL Try.prog w0 m0 (Func.ntmps Try.f4) (Code.ops (y6 (y6 (y6 (y3 (y3 (y6 (y6 (y3 (y3 (y6 (y6 (y3 (y6 (y3 (y3 (y3 (y3 (y3 (y3 (y3 (y3 (y3 (y3 (y6 (y6 (y3 (y3 (y6 (y6 (y3 (y6 (y3 (y3 (y3 (y3 (y3 (y3 (y3 (codeOf Try.f4)))))))))))))))))))))))))))))))))))))))) 11 K187 [(3,r21),(4,t4_86),(8,(newP h_37)),(9,(newP h_69)),(10,.int .i64 t10),(11,v79),(14,(newP h_119)),(16,(newP h_163)),(29,t0),(30,.int .i64 t30),(31,.int .i64 t31),(164,v79),(165,.int .i64 t165),(166,.int .i64 t166),(186,.bool t186)] [] h_192:=by
                       intro t186 h_192 hF;rw[e193] at hF;refine oV [(3,r21),(4,t4_86),(8,(newP h_37)),(9,(newP h_69)),(10,.int .i64 t10),(11,v79),(14,(newP h_119)),(16,(newP h_163)),(29,t0),(30,.int .i64 t30),(31,.int .i64 t31),(164,v79),(165,.int .i64 t165),(166,.int .i64 t166),(186,.bool t186)] (n187 ?_)
                       cases t186 with
                       |true=>
                        exact oT hF fun hF=>oG fun n195=>W.r (oA 2 (.bool false) (oV [(2,.bool false)] (n195 (oY (q186 (q168 (q167 (q161 (q128 (q125 (q42 (q41 (q36 (q32 (q29 (lZ hF [.tmp 2] [.bool false] (rT res_nil)))))))))))))))))
                       |false=>
                        refine oU hF fun hF=>oZ (n186 (y15 (by kernel_rfl) (hc.ok w0) (plan:=[0,1,2,3,4,5]) (by kernel_rfl) (by kernel_rfl) (by kernel_rfl) (WD.a 0 (some 187) (AV.ptr (AHeap.next h_163) 3) h_192 ?_)))
                        replace hF:=obind_some hF;obtain⟨v188,e196,hF⟩:=hF
                        replace hF:=obind_some hF;obtain⟨t188,c197,hF⟩:=hF
                        have c197:=avInt_some c197;subst c197;refine WD.b 1 (some 188) (.int .i64 t188) h_192 (load_cell (P:=Try.prog) (h:=h_192) (t:=3) (by kernel_rfl) e196) (WD.a 0 (some 189) (AV.ptr (AHeap.next h_163) 1) h_192 ?_);obtain⟨t190,e198,hF⟩:=obind_some hF;refine WD.b 1 (some 190) (.agg t190) h_192 (load_row (P:=Try.prog) (h:=h_192) (t:=31) (by kernel_rfl) (by kernel_rfl) e198) (WD.a 0 (some 13) (.int .i64 t188) h_192 ?_);obtain⟨h_199,e200,hF⟩:=obind_some hF;exact WD.eff (h':=h_199) (by kernel_rfl) (by kernel_rfl) (Eq.trans (by kernel_rfl) (store_row (P:=Try.prog) (h:=h_192) (t:=31) (v:=(.agg t190)) (by kernel_rfl) (by kernel_rfl) e200)) (k:=2) (by kernel_rfl) (fun _=>(by kernel_rfl)) (by decide) (WD.nil (gW [(3,r21),(4,t4_86),(8,(newP h_37)),(9,(newP h_69)),(10,.int .i64 t10),(11,v79),(13,.int .i64 t188),(14,(newP h_119)),(29,t0),(30,.int .i64 t30),(31,.int .i64 t31),(164,v79),(165,.int .i64 t165),(166,.int .i64 t166)] (gW _ (J182 _ _ hF))))
                      cases t180 with
                      |true=>
                       replace hF:=ifB_t hF
                       exact WL.o (some 182) (WL.o (some 183) (WL.o (some 184) (WL.o (some 185) (oA 186 (.bool true) (lW _ (J194 _ _ hF))))))
                      |false=>
                       replace hF:=ifB_f hF
                       exact oR 182 31 hF fun t182 hF=>oA 183 (AV.ptr (AHeap.next h_163) 1) (oR 184 31 hF fun t184 hF=>oCb hc 185 hF fun t185 h_203 hF=>oA 186 (.bool t185) (lW _ (J194 _ _ hF)))
                     |false=>
                      exact oU hF fun hF=>oZ (gW _ (J182 _ _ hF))
                    |false=>
                     exact oU hF fun hF=>W.exit (by kernel_rfl) (e166 (e161 (s128 (by kernel_rfl) (gW _ (J129 _ _ hF)))))
                  exact gW _ (L161 _ _ _ _ hF)
                refine y15 (by kernel_rfl) (hc.ok w0) (plan:=[0,1,2,3,4,5,6,7,8,9,10,11,12,13,14,15,16,17,18,19,20,21,22,23,24,25,26,27,28,29,30,31,32,33,34,35,36,37,38,39,40,41,42,43,44,45,46]) (by kernel_rfl) (by kernel_rfl) (by kernel_rfl) (WD.a 0 (some 117) v79 h_112 ?_);obtain⟨t118,e206,hF⟩:=obind_some hF;refine WD.b 0 (some 118) (.int .i64 t118) h_112 (len_row (P:=Try.prog) (h:=h_112) (t:=45) (e':=56) (by kernel_rfl) e206) (WD.a 0 (some 119) t6 h_112 ?_);obtain⟨t120,e207,hF⟩:=obind_some hF;refine WD.b 0 (some 120) (.int .i64 t120) h_112 (len_row (P:=Try.prog) (h:=h_112) (t:=45) (e':=56) (by kernel_rfl) e207) ?_;obtain⟨t121,e208,hF⟩:=lett_some hF;refine WD.val (d:=(some 121)) (v:=.bool t121) (h':=h_112) (by kernel_rfl) (by kernel_rfl) (val_of AV.bool e208 (by kernel_rfl)) (k:=0) (by kernel_rfl) (fun e=>absurd e (by decide)) (by decide) (WD.a 0 (some 122) (.bool t121) h_112 ?_)
                cases t121 with
                |true=>
                 replace hF:=ifB_t hF
                 refine WD.a 0 (some 123) (AV.ptr (AHeap.next h_37) 2) h_112 (WD.a 0 (some 124) (AV.ptr (AHeap.next h_37) 2) h_112 ?_)
                 replace hF:=obind_some hF;obtain⟨v125,e209,hF⟩:=hF
                 replace hF:=obind_some hF;obtain⟨t125,c210,hF⟩:=hF
                 have c210:=avInt_some c210;subst c210;refine WD.b 1 (some 125) (.int .u8 t125) h_112 (load_cell (P:=Try.prog) (h:=h_112) (t:=5) (by kernel_rfl) e209) ?_;obtain⟨t126,e211,hF⟩:=lett_some hF;refine WD.val (d:=(some 126)) (v:=.bool t126) (h':=h_112) (by kernel_rfl) (by kernel_rfl) (val_of AV.bool e211 (by kernel_rfl)) (k:=0) (by kernel_rfl) (fun e=>absurd e (by decide)) (by decide) (WD.a 0 (some 127) (.bool t126) h_112 ?_)
                 cases t126 with
                 |true=>
                  replace hF:=ifB_t hF
                  exact oD 0 (some 128) (oD 0 (some 129) (oD 0 (some 130) (oD 0 (some 131) (oD 0 (some 132) (oD 1 (some 133) (oD 0 (some 134) (oD 0 (some 135) (oD 1 (some 136) (oD 0 (some 137) (WD.a 0 (some 138) (.bool true) h_112 (WD.a 0 (some 139) (.bool true) h_112 (oD 0 (some 140) (oD 0 (some 141) (oD 0 (some 142) (oD 0 (some 143) (oD 0 (some 144) (oD 1 (some 145) (oD 0 (some 146) (oD 0 (some 147) (oD 1 (some 148) (oD 0 (some 149) (WD.a 0 (some 150) (.bool true) h_112 (WD.a 0 (some 151) (.bool true) h_112 (oD 0 (some 152) (oD 0 (some 153) (oD 0 (some 154) (oD 0 (some 155) (oD 0 (some 156) (oD 1 (some 157) (oD 0 (some 158) (oD 0 (some 159) (oD 1 (some 160) (oD 0 (some 161) (WD.a 0 (some 162) (.bool true) h_112 (WD.a 0 (some 163) (.bool true) h_112 (WD.nil (gW _ (J118 _ _ hF))))))))))))))))))))))))))))))))))))))
                 |false=>
                  replace hF:=ifB_f hF
                  refine WD.a 0 (some 128) v79 h_112 (WD.a 0 (some 129) t6 h_112 ?_);obtain⟨t130,e212,hF⟩:=obind_some hF;refine WD.b 0 (some 130) (.int .i64 t130) h_112 (len_row (P:=Try.prog) (h:=h_112) (t:=45) (e':=56) (by kernel_rfl) e212) ?_;obtain⟨t131,e213,hF⟩:=obind_some hF;refine WD.b 0 (some 131) t131 h_112 (index_row (P:=Try.prog) (h:=h_112) (t:=45) (e':=56) (k:=.i64) (by kernel_rfl) (by kernel_rfl) (by kernel_rfl) e213) ?_;obtain⟨t132,e214,hF⟩:=obind_some hF;refine WD.b 0 (some 132) t132 h_112 (field_ptr (P:=Try.prog) (h:=h_112) (s:=56) (f:=3) (by kernel_rfl) e214) ?_
                  replace hF:=obind_some hF;obtain⟨v133,e215,hF⟩:=hF
                  replace hF:=obind_some hF;obtain⟨t133,c216,hF⟩:=hF
                  have c216:=avStr_some c216;subst c216;refine WD.b 1 (some 133) (strA t133) h_112 (load_cell (P:=Try.prog) (h:=h_112) (t:=9) (by kernel_rfl) e215) (WD.a 0 (some 134) (AV.ptr (AHeap.next h_37) 2) h_112 (WD.a 0 (some 135) (AV.ptr (AHeap.next h_37) 14) h_112 ?_))
                  replace hF:=obind_some hF;obtain⟨v136,e217,hF⟩:=hF
                  replace hF:=obind_some hF;obtain⟨t136,c218,hF⟩:=hF
                  have c218:=avStr_some c218;subst c218;refine WD.b 1 (some 136) (strA t136) h_112 (load_cell (P:=Try.prog) (h:=h_112) (t:=9) (by kernel_rfl) e217) ?_;obtain⟨t137,e219,hF⟩:=lett_some hF;refine WD.val (d:=(some 137)) (v:=.bool t137) (h':=h_112) (by kernel_rfl) (by kernel_rfl) (val_of AV.bool e219 (by kernel_rfl)) (k:=0) (by kernel_rfl) (fun e=>absurd e (by decide)) (by decide) (WD.a 0 (some 138) (.bool t137) h_112 (WD.a 0 (some 139) (.bool t137) h_112 ?_))
                  cases t137 with
                  |true=>
                   replace hF:=ifB_t hF
                   exact oD 0 (some 140) (oD 0 (some 141) (oD 0 (some 142) (oD 0 (some 143) (oD 0 (some 144) (oD 1 (some 145) (oD 0 (some 146) (oD 0 (some 147) (oD 1 (some 148) (oD 0 (some 149) (WD.a 0 (some 150) (.bool true) h_112 (WD.a 0 (some 151) (.bool true) h_112 (oD 0 (some 152) (oD 0 (some 153) (oD 0 (some 154) (oD 0 (some 155) (oD 0 (some 156) (oD 1 (some 157) (oD 0 (some 158) (oD 0 (some 159) (oD 1 (some 160) (oD 0 (some 161) (WD.a 0 (some 162) (.bool true) h_112 (WD.a 0 (some 163) (.bool true) h_112 (WD.nil (gW _ (J118 _ _ hF))))))))))))))))))))))))))
                  |false=>
                   replace hF:=ifB_f hF
                   refine WD.a 0 (some 140) v79 h_112 (WD.a 0 (some 141) t6 h_112 ?_);obtain⟨t142,e220,hF⟩:=obind_some hF;refine WD.b 0 (some 142) (.int .i64 t142) h_112 (len_row (P:=Try.prog) (h:=h_112) (t:=45) (e':=56) (by kernel_rfl) e220) ?_;obtain⟨t143,e221,hF⟩:=obind_some hF;refine WD.b 0 (some 143) t143 h_112 (index_row (P:=Try.prog) (h:=h_112) (t:=45) (e':=56) (k:=.i64) (by kernel_rfl) (by kernel_rfl) (by kernel_rfl) e221) ?_;obtain⟨t144,e222,hF⟩:=obind_some hF;refine WD.b 0 (some 144) t144 h_112 (field_ptr (P:=Try.prog) (h:=h_112) (s:=56) (f:=2) (by kernel_rfl) e222) ?_
                   replace hF:=obind_some hF;obtain⟨v145,e223,hF⟩:=hF
                   replace hF:=obind_some hF;obtain⟨t145,c224,hF⟩:=hF
                   have c224:=avInt_some c224;subst c224;refine WD.b 1 (some 145) (.int .i64 t145) h_112 (load_cell (P:=Try.prog) (h:=h_112) (t:=3) (by kernel_rfl) e223) (WD.a 0 (some 146) (AV.ptr (AHeap.next h_37) 2) h_112 (WD.a 0 (some 147) (AV.ptr (AHeap.next h_37) 18) h_112 ?_))
                   replace hF:=obind_some hF;obtain⟨v148,e225,hF⟩:=hF
                   replace hF:=obind_some hF;obtain⟨t148,c226,hF⟩:=hF
                   have c226:=avInt_some c226;subst c226;refine WD.b 1 (some 148) (.int .i64 t148) h_112 (load_cell (P:=Try.prog) (h:=h_112) (t:=3) (by kernel_rfl) e225) ?_;obtain⟨t149,e227,hF⟩:=lett_some hF;refine WD.val (d:=(some 149)) (v:=.bool t149) (h':=h_112) (by kernel_rfl) (by kernel_rfl) (val_of AV.bool e227 (by kernel_rfl)) (k:=0) (by kernel_rfl) (fun e=>absurd e (by decide)) (by decide) (WD.a 0 (some 150) (.bool t149) h_112 (WD.a 0 (some 151) (.bool t149) h_112 ?_))
                   cases t149 with
                   |true=>
                    replace hF:=ifB_t hF
                    exact oD 0 (some 152) (oD 0 (some 153) (oD 0 (some 154) (oD 0 (some 155) (oD 0 (some 156) (oD 1 (some 157) (oD 0 (some 158) (oD 0 (some 159) (oD 1 (some 160) (oD 0 (some 161) (WD.a 0 (some 162) (.bool true) h_112 (WD.a 0 (some 163) (.bool true) h_112 (WD.nil (gW _ (J118 _ _ hF))))))))))))))
                   |false=>
                    replace hF:=ifB_f hF
                    refine WD.a 0 (some 152) v79 h_112 (WD.a 0 (some 153) t6 h_112 ?_);obtain⟨t154,e228,hF⟩:=obind_some hF;refine WD.b 0 (some 154) (.int .i64 t154) h_112 (len_row (P:=Try.prog) (h:=h_112) (t:=45) (e':=56) (by kernel_rfl) e228) ?_;obtain⟨t155,e229,hF⟩:=obind_some hF;refine WD.b 0 (some 155) t155 h_112 (index_row (P:=Try.prog) (h:=h_112) (t:=45) (e':=56) (k:=.i64) (by kernel_rfl) (by kernel_rfl) (by kernel_rfl) e229) ?_;obtain⟨t156,e230,hF⟩:=obind_some hF;refine WD.b 0 (some 156) t156 h_112 (field_ptr (P:=Try.prog) (h:=h_112) (s:=56) (f:=1) (by kernel_rfl) e230) ?_;obtain⟨t157,e231,hF⟩:=obind_some hF;refine WD.b 1 (some 157) (.agg t157) h_112 (load_row (P:=Try.prog) (h:=h_112) (t:=31) (by kernel_rfl) (by kernel_rfl) e231) (WD.a 0 (some 158) (AV.ptr (AHeap.next h_37) 2) h_112 (WD.a 0 (some 159) (AV.ptr (AHeap.next h_37) 16) h_112 ?_));obtain⟨t160,e232,hF⟩:=obind_some hF;refine WD.b 1 (some 160) (.agg t160) h_112 (load_row (P:=Try.prog) (h:=h_112) (t:=31) (by kernel_rfl) (by kernel_rfl) e232) ?_;obtain⟨t161,e233,hF⟩:=obind_some hF;obtain⟨t161_234,e235,hF⟩:=lett_some hF;exact WD.val (d:=(some 161)) (v:=.bool t161_234) (h':=h_112) (by kernel_rfl) (by kernel_rfl) (val_of AV.bool e235 (Eq.trans (by kernel_rfl) (neq_other (P:=Try.prog) (h:=h_112) (t:=31) (lit:=false) (by kernel_rfl) e233))) (k:=0) (by kernel_rfl) (fun e=>absurd e (by decide)) (by decide) (WD.a 0 (some 162) (.bool t161_234) h_112 (WD.a 0 (some 163) (.bool t161_234) h_112 (WD.nil (gW _ (J118 _ _ hF)))))
                |false=>
                 replace hF:=ifB_f hF
                 exact oD 0 (some 123) (oD 0 (some 124) (oD 1 (some 125) (oD 0 (some 126) (oD 0 (some 127) (oD 0 (some 128) (oD 0 (some 129) (oD 0 (some 130) (oD 0 (some 131) (oD 0 (some 132) (oD 1 (some 133) (oD 0 (some 134) (oD 0 (some 135) (oD 1 (some 136) (oD 0 (some 137) (oD 0 (some 138) (oD 0 (some 139) (oD 0 (some 140) (oD 0 (some 141) (oD 0 (some 142) (oD 0 (some 143) (oD 0 (some 144) (oD 1 (some 145) (oD 0 (some 146) (oD 0 (some 147) (oD 1 (some 148) (oD 0 (some 149) (oD 0 (some 150) (oD 0 (some 151) (oD 0 (some 152) (oD 0 (some 153) (oD 0 (some 154) (oD 0 (some 155) (oD 0 (some 156) (oD 1 (some 157) (oD 0 (some 158) (oD 0 (some 159) (oD 1 (some 160) (oD 0 (some 161) (oD 0 (some 162) (WD.a 0 (some 163) (.bool false) h_112 (WD.nil (gW _ (J118 _ _ hF)))))))))))))))))))))))))))))))))))))))))))
              cases t109 with
              |true=>
               replace hF:=ifB_t hF
               exact oA 111 v79 (oM 112 45 56 hF fun t112 hF=>oA 113 t6 (oM 114 45 56 hF fun t114 hF=>oB 115 hF fun t115 hF=>oA 116 (.bool t115) (lW _ (J114 _ _ hF))))
              |false=>
               replace hF:=ifB_f hF
               exact WL.o (some 111) (WL.o (some 112) (WL.o (some 113) (WL.o (some 114) (WL.o (some 115) (oA 116 (.bool false) (lW _ (J114 _ _ hF)))))))
            cases t97 with
            |true=>
             replace hF:=ifB_t hF
             exact WL.o (some 99) (WL.o (some 100) (WL.o (some 101) (WL.o (some 102) (WL.o (some 103) (WL.o (some 104) (WL.o (some 105) (oA 106 (.bool true) (lW _ (J105 _ _ hF)))))))))
            |false=>
             replace hF:=ifB_f hF
             exact oA 99 v79 (oA 100 t6 (oM 101 45 56 hF fun t101 hF=>oK 102 hF fun v102 h_240 hF=>oA 103 t6 (oCb hc 104 hF fun t104 h_242 hF=>oB 105 hF fun t105 hF=>oA 106 (.bool t105) (lW _ (J105 _ _ hF)))))
           cases t89 with
           |true=>
            replace hF:=ifB_t hF
            exact WL.o (some 91) (WL.o (some 92) (WL.o (some 93) (WL.o (some 94) (WL.o (some 95) (WL.o (some 96) (oA 97 (.bool true) (lW _ (J102 _ _ hF))))))))
           |false=>
            replace hF:=ifB_f hF
            exact oA 91 v79 (oM 92 45 56 hF fun t92 hF=>oA 93 t6 (oM 94 45 56 hF fun t94 hF=>oI 95 .i64 hF fun t95 hF=>oB 96 hF fun t96 hF=>oA 97 (.bool t96) (lW _ (J102 _ _ hF))))
          cases t82 with
          |true=>
           replace hF:=ifB_t hF
           exact WL.o (some 84) (WL.o (some 85) (WL.o (some 86) (WL.o (some 87) (WL.o (some 88) (oA 89 (.bool true) (lW _ (J99 _ _ hF)))))))
          |false=>
           replace hF:=ifB_f hF
           exact oA 84 v79 (oM 85 45 56 hF fun t85 hF=>oA 86 t6 (oM 87 45 56 hF fun t87 hF=>oB 88 hF fun t88 hF=>oA 89 (.bool t88) (lW _ (J99 _ _ hF))))
         cases t56 with
         |true=>
          refine oT hF fun hF=>oG fun n253=>W.r (oA 57 r21 (oA 58 (AV.ptr (AHeap.next h_37) 25) (oLi 59 3 hF fun t59 hF=>oK 60 hF fun v60 h_256 hF=>oA 61 (AV.ptr (AHeap.next h_37) 1) (oLi 62 3 hF fun t62 hF=>oCi hc 63 hF fun t63 h_260 hF=>oV [(3,r21),(6,t6),(8,(newP h_37)),(9,(newP h_69)),(29,t0),(30,.int .i64 t30),(31,.int .i64 t31)] (n253 (oG fun n263=>W.r (oA 65 r21 (oC hc (some 66) hF fun r66 h_264 hF=>oA 64 r66 (oE 67 hF fun v67 hF=>oEi 68 hF fun t68 hF=>oA 4 v67 (oA 10 (.int .i64 t68) (oV [(3,r21),(4,v67),(6,t6),(8,(newP h_37)),(9,(newP h_69)),(10,.int .i64 t68),(29,t0),(30,.int .i64 t30),(31,.int .i64 t31)] (n263 (oH fun n269 q269=>W.s (fun K270 n270 e270 q270 p270=>W.r (oA 69 (.int .i64 t68) (oB 70 hF fun t70 hF=>oA 71 (.bool t70) ?_))))))))))))))));obtain⟨j74,e273,hF⟩:=lett_some hF
          have J274:∀(t74:Bool) (h_272:AHeap),j74 t74 h_272=some (rR,hR)→WL Try.prog w0 m0 (Func.ntmps Try.f4) (Code.ops (y6 (y6 (y3 (y3 (y6 (y3 (y6 (y3 (y3 (y3 (y6 (y6 (y3 (y3 (y6 (y6 (y3 (y6 (y3 (y3 (y3 (y3 (y3 (y3 (y3 (codeOf Try.f4))))))))))))))))))))))))))) 6 K270 [(3,r21),(4,v67),(6,t6),(8,(newP h_37)),(9,(newP h_69)),(10,.int .i64 t68),(29,t0),(30,.int .i64 t30),(31,.int .i64 t31),(74,.bool t74)] [] h_272:=by
           intro t74 h_272 hF;rw[e273] at hF;refine oV [(3,r21),(4,v67),(6,t6),(8,(newP h_37)),(9,(newP h_69)),(10,.int .i64 t68),(29,t0),(30,.int .i64 t30),(31,.int .i64 t31),(74,.bool t74)] (n270 ?_)
           cases t74 with
           |true=>
            exact oT hF fun hF=>oG fun n275=>W.r (oA 2 (.bool false) (oV [(2,.bool false)] (n275 (oY (q269 (q79 (q42 (q41 (q36 (q32 (q29 (lZ hF [.tmp 2] [.bool false] (rT res_nil)))))))))))))
           |false=>
            exact oU hF fun hF=>oZ (n269 (W.r (oA 75 (.agg ([.int .u8 0,.int .i64 0,.int .i64 0,.int .i64 0,.int .i64 0,.int .i64 0,.int .i64 0,.int .i64 0,.bool false,.nsl,.int .i64 0,.int .i64 0,.str 0 0,.int .i64 0,.int .i64 0,.int .i64 0,.int .i64 0,.int .i64 0,.int .i64 0,.int .u8 0,.int .i64 0,.int .i64 0]:List AV)) (oW 33 (.agg ([.int .u8 0,.int .i64 0,.int .i64 0,.int .i64 0,.int .i64 0,.int .i64 0,.int .i64 0,.int .i64 0,.bool false,.nsl,.int .i64 0,.int .i64 0,.str 0 0,.int .i64 0,.int .i64 0,.int .i64 0,.int .i64 0,.int .i64 0,.int .i64 0,.int .u8 0,.int .i64 0,.int .i64 0]:List AV)) hF fun h_276 hF=>oV [(3,r21),(4,v67),(6,t6),(8,(newP h_37)),(9,(newP h_69)),(10,.int .i64 t68),(29,t0),(30,.int .i64 t30),(31,.int .i64 t31)] (gW _ (J85 _ _ _ hF))))))
          cases t70 with
          |true=>
           replace hF:=ifB_t hF
           exact WL.o (some 72) (WL.o (some 73) (oA 74 (.bool true) (lW _ (J274 _ _ hF))))
          |false=>
           replace hF:=ifB_f hF
           refine oA 72 v67 ?_
           replace hF:=outK_some hF;obtain⟨v73,h_278,e279,hF⟩:=hF
           replace hF:=obind_some hF;obtain⟨t73,c280,hF⟩:=hF
           have c280:=avBool_some c280;subst c280;exact WL.b (some 73) (.bool t73) h_278 e279 (oA 74 (.bool t73) (lW _ (J274 _ _ hF)))
         |false=>
          exact oU hF fun hF=>oZ (gW _ (J85 _ _ _ hF))
        cases t51 with
        |true=>
         replace hF:=ifB_t hF
         exact WL.o (some 53) (WL.o (some 54) (WL.o (some 55) (oA 56 (.bool true) (lW _ (J84 _ _ hF)))))
        |false=>
         replace hF:=ifB_f hF
         exact oA 53 (AV.ptr (AHeap.next h_37) 0) (oLi 54 3 hF fun t54 hF=>oB 55 hF fun t55 hF=>oA 56 (.bool t55) (lW _ (J84 _ _ hF)))
      |false=>
       exact oU hF fun hF=>W.exit (by kernel_rfl) (e40 (e36 (s32 (by kernel_rfl) (gW _ (J33 _ hF)))))
    exact gW _ (L36 _ _ _ _ _ hF)
def RdS(H:AHeap)(v:AV)(L:List Snd):Prop:=lenL v=some (L.length:Int)∧∀(i:Nat) (hi:i<L.length),∃p,idxP 5 v (i:Int)=some p∧ldRow H 5 p=some (sndC L[i])
section
variable {N n D d db jb B:Nat}{lo nb:Nat→Prop}{H H':AHeap}{s:DS}{L:List Snd}{v w:AV}{Q:ARes→AHeap→Prop}
theorem SndAt.rds(k:SndAt H v L):RdS H v L:=⟨k.len,fun _ hi=>k.at hi⟩
theorem SndAt.firsts(k:SndAt H v L){j:Nat}(hj:j≤L.length):∃v',sliceA Pg H TTks v none (some (.int .i64 (j:Int)))=some (.val v',H)∧RdS H v' (L.take j):=by
 rcases k with⟨rfl,rfl⟩|⟨c,rfl,h2,h3⟩
 ·obtain rfl : j = 0 := Nat.le_zero.1 hj
  exact⟨.nsl,by kernel_rfl,rfl,fun i hi=>absurd hi (Nat.not_lt_zero _)⟩
 ·refine ⟨_, slice_to (k1 := .i64) (e := TTk) (by kernel_rfl) (by kernel_rfl) (by kernel_rfl) hj, ?_, fun i hi => ?_⟩
  ·rw [List.length_take, Nat.min_eq_left hj]
   rfl
  ·rw [List.length_take, Nat.min_eq_left hj] at hi
   refine⟨_,idxP_sl hi,?_⟩;rw[snds_ld h2 (show i<L.length by omega),List.getElem_take]
theorem same_loop2(k1:RdS H v L)(k2:RdS H w L)(hl:L.length<1000000){k12:AHeap→R}(hk:Wp (k12 H) Q):∀(r i fu:Nat),r+i=L.length→r<fu→Wp (law23_same_L0 v w (L.length:Int) k12 fu (i:Int) H) Q
 |_,_,0,_,hf=>by omega
 |0,i,fu+1,hi,_=>by
  rw[law23_same_L0_s];unfold law23_same_L0b;exact Wp.lett (y7 (by rw[decide_eq_false_iff_not];omega) hk)
 |r+1,i,fu+1,hi,hf=>by
  have hil:i<L.length:=by omega
  obtain⟨p,p1,p2⟩:=k1.2 i hil;obtain⟨q,q1,q2⟩:=k2.2 i hil;rw[law23_same_L0_s];unfold law23_same_L0b;refine Wp.lett (yc (by rw[decide_eq_true_eq];omega) (Wp.obind p1 (Wp.obind p2 (Wp.obind q1 (Wp.obind q2 (Wp.obind (eqTk_self _) (Wp.lett (y7 rfl (ye (by omega) (by omega) ?_)))))))));rw[show (i:Int)+1=((i+1:Nat):Int) by omega];exact same_loop2 k1 k2 hl hk r (i+1) fu (by omega) (by omega)
theorem same_r(k1:RdS H v L)(k2:RdS H w L)(hl:L.length<1000000)(hn:1000000<n):wL n D (d+1) false 18 [v,w] H=some (.ret (.bool true),H):=by
 apply Wp.eq
 suffices hK:Wp (law23_same (wL n D d false) n v w H) fun r H'=>r=.ret (.bool true)∧H'=H by
  obtain⟨r,h',e,k⟩:=hK;exact⟨r,h',wL_law23_same n D d _ _ e,k⟩
 unfold law23_same;refine Wp.obind k1.1 (Wp.obind k2.1 (Wp.lett (y7 (bne_f rfl) (Wp.obind k1.1 (y8 fun k12 e12=>same_loop2 k1 k2 hl ?_ L.length 0 n (Nat.add_zero _) (by omega))))));rw[e12];exact Wp.ret ⟨rfl,rfl⟩
theorem bldI1(h:AHeap)(z:Int):bldSl Pg h 53 1 [(0,.int .i64 z)]=outNewS h 3 [.int .i64 z] 1 1:=by kernel_rfl
theorem row_rdi{c:Nat}{z:Int}(k:RowH H c 3 [.int .i64 z])(lc:c<H.next)(hc:¬lo c):RdI lo H (.sl c 0 1 1) [z]:=
 ⟨rfl, fun S H2 t hS i hi => by
  have h1:[z].length=1:=rfl
  obtain rfl:i=0:=by omega
  exact⟨.ptr c (0+0*1),rfl,y5 (k.tch t lc fun h=>hc (hS _ h)) rfl⟩⟩
theorem Gs.power{gb sb:Nat}{sl:List (Int×Int×Int)}(G:Gs N lo nb H db jb gb sb sl s L B){p:Int}(hp:p<9223372036854775808):∃H' S,wL n (D+6) (d+1) false 17 [.ptr db 0,.int .i64 p] H=some (.ret (.int .i64 0),H')∧Gs N lo nb H' db jb gb sb sl ⟨s.fs,if -1>p then -1 else p,s.ops⟩ L B∧Tch S H H'∧∀b∈S,lo b:=by
 have Y:=G.Y;obtain⟨H',S,e,K',t,hS⟩:=power_ok (n:=n) (d:=D+5) hp Y.K;exact⟨H',S,(wL_b 17).trans e,⟨⟨K',Y.J.tch t (fun b hb h=>(Y.sep b h).2.1 (hS b hb)),fun b hb=>⟨(Y.sep b hb).1,(Y.sep b hb).2.1,Nat.lt_of_lt_of_le (Y.sep b hb).2.2 t.1⟩,Y.fi,Y.ok,Y.hl,Nat.le_trans Y.hN t.1⟩,G.row.tch t G.hg (fun h=>G.gl (hS _ h)),(t.2.2 sb G.hs (fun h=>G.sl' (hS _ h))).trans G.mp,Nat.lt_of_lt_of_le G.hg t.1,Nat.lt_of_lt_of_le G.hs t.1,G.gN,G.sN,G.gl,G.sl',G.gn,G.sn⟩,t,hS⟩
theorem eqFen(a b c e:Int):eqOther Pg TFen (.agg [.int .i64 a,.int .i64 b]) (.agg [.int .i64 c,.int .i64 e])=some (decide (a=c∧b=e)):=by
 have hf:flatB Pg TFen [1,1]=true:=by kernel_rfl
 have he:eqL [1,1] [.int .i64 a,.int .i64 b] [.int .i64 c,.int .i64 e]=some ((a == c)&&((b == e)&&true)):=eqL_cons rfl (eqCell_int _ _ _) (eqL_cons rfl (eqCell_int _ _ _) rfl);rw[eq_flat hf he]
 by_cases h1:a=c
 ·by_cases h2 : b = e
  ·simp[h1,h2]
  ·simp[h2]
 ·simp[h1]
theorem above_self(a b:Int):aboveJ a b a b=false:=by
 unfold aboveJ
 simp
theorem fen_loop{b0 pb:Nat}{h:AHeap}{h_37 h_119:AHeap}{c:Sp}(e37:h_37.next=pb)(e119:h_119.next=b0)(hok:OkJ [] L)(ks:SndAt h v L)(hl:L.length<1000000)(kp:RowH h pb TSp (spC c))(lp:pb<h.next)(lb:b0<h.next)(hpb:pb≠b0)(hvb:b0 ∉ blkV v){k129:Int→AHeap→R}(hk:∀H,RowH H b0 TFen [.int .i64 (lastZ L c.m.tk).t,.int .i64 (lastZ L c.m.tk).e]→Tch [b0] h H→Wp (k129 (lastZ L c.m.tk).q H) Q):
  ∀(r i fu:Nat) (H:AHeap),r+i=L.length→r<fu→RowH H b0 TFen [.int .i64 (lastZ (L.take i) c.m.tk).t,.int .i64 (lastZ (L.take i) c.m.tk).e]→Tch [b0] h H→Wp (law23_GatewayFences_L1 (wL n (D+1) (d+1) false) h_37 v h_119 (L.length:Int) k129 fu (lastZ (L.take i) c.m.tk).q (i:Int) H) Q
 |_,_,0,_,_,hf,_,_=>by omega
 |0,i,fu+1,H,hi,_,kf,T=>by
  rw[law23_GatewayFences_L1_s];unfold law23_GatewayFences_L1b;rw[List.take_of_length_le (show L.length≤i by omega)] at kf ⊢;exact Wp.lett (y7 (by rw[decide_eq_false_iff_not];omega) (hk H kf T))
 |r+1,i,fu+1,H,hi,hf,kf,T=>by
  have hil:i<L.length:=by omega
  have ks2:=ks.tch T (fun b hbb h=>hvb (List.mem_singleton.1 h▸hbb));have kp2:=kp.tch T lp (fun h=>hpb (List.mem_singleton.1 h));obtain⟨p,p1,p2⟩:=ks2.at hil;obtain⟨o1,o2⟩:=OkJ_at L [] hok i hil;rw[List.nil_append] at o2;have hqb:=lastZ_bound (L:=L.take i) (fun x hx=>hok.all x (List.mem_of_mem_take hx)) c.m.tk;obtain⟨⟨_,_,_,hq1,hq2⟩,_⟩:=checkJ_ok o1
  have hnx:lastZ (L.take (i+1)) c.m.tk=if L[i].k=c.m.tk then L[i] else lastZ (L.take i) c.m.tk:=by
   rw[List.take_succ_eq_append_getElem hil,lastZ_snoc]
  have g15:(spC c)[15]? =some (.int .i64 c.m.tk):=rfl;have nT:=T.1;rw[law23_GatewayFences_L1_s];unfold law23_GatewayFences_L1b;refine Wp.lett (yc (by rw[decide_eq_true_eq];omega) (Wp.obind p1 (Wp.obind p2 (y11 (Mem.nil [] H) fun h2 M2=>?_))));rw[newP_eq H,e37,newP_eq h_119,e119];refine y1a M2 rfl rfl (snd_one _) fun h3 M3=>?_;have t3:=M3.tch;have n3:=t3.1;have kp3:=kp2.tch t3 (by omega) (fun h=>nomatch h);have kf3:=kf.tch t3 (by omega) (fun h=>nomatch h);have T3:Tch [b0] h h3:=T.trans (t3.mono fun _ h=>nomatch h);refine y26 M3 rfl (Wp.obind (avInt_int _ _) (Wp.obind (y5 kp3 g15) (Wp.obind (avInt_int _ _) (Wp.lett (y8 fun k182 e182=>?_)))))
  by_cases hkk:L[i].k=c.m.tk
  ·rw [if_pos hkk] at hnx
   have hq:=refJ_q o2;rw[hkk] at hq
   have hab:aboveJ (lastZ (L.take i) c.m.tk).t (lastZ (L.take i) c.m.tk).e L[i].t L[i].e=false:=by
    unfold refJ at o2;rw[hkk] at o2;cases ha:aboveJ (lastZ (L.take i) c.m.tk).t (lastZ (L.take i) c.m.tk).e L[i].t L[i].e with
    |false=>rfl
    |true=>
     rw[ha,if_pos rfl] at o2
     cases o2
   have k3:=M3.at0.1;have l3:=M3.at0.2.1;have g1:ldRow h3 2 (.ptr H.next 1)=some [.int .i64 L[i].t,.int .i64 L[i].e]:=k3.ld (o:=1) (n:=2) (show 1+2≤5 by decide);refine yc (beq_t hkk) (y26 M3 rfl (Wp.obind (avInt_int _ _) (ye (by omega) (by omega) (Wp.lett (y8 fun j186 e186=>y7 (bne_f hq) (Wp.obind (kf3.ldAll rfl) (Wp.obind g1 (Wp.callN ((wL_b 19).trans (above_w (n:=n) (d:=D) _ _ _ _)) (Wp.obind (avBool_bool _) ?_)))))))));rw[hab,e186];refine y7 rfl (y26 M3 rfl (Wp.obind (avInt_int _ _) (Wp.obind g1 (Wp.stAll kf3 rfl rfl rfl fun h4 k4 t4 n4=>?_))));rw[e182];refine ye (by omega) (by omega) ?_;rw[show (i:Int)+1=((i+1:Nat):Int) by omega,show L[i].q=(lastZ (L.take (i+1)) c.m.tk).q by rw[hnx]];exact fen_loop e37 e119 hok ks hl kp lp lb hpb hvb hk r (i+1) fu h4 (by omega) (by omega) (by rw[hnx];exact k4) (T3.trans t4)
  ·rw [if_neg hkk] at hnx
   refine y7 (beq_f hkk) ?_;rw[e182];refine ye (by omega) (by omega) ?_;rw[show (i:Int)+1=((i+1:Nat):Int) by omega, ←hnx];exact fen_loop e37 e119 hok ks hl kp lp lb hpb hvb hk r (i+1) fu h3 (by omega) (by omega) (by rw[hnx];exact kf3) T3
theorem SndAt.cell{h:AHeap}{i:Nat}(ks:SndAt h v L)(hil:i<L.length):∃c o,idxP 5 v (i:Int)=some (.ptr c o)∧(∀(j:Nat) (w:AV),(sndC L[i])[j]? =some w→ldCell h (.ptr c (o+j))=some w)∧ldRow h 2 (.ptr c (o+1))=some [.int .i64 L[i].t,.int .i64 L[i].e]:=by
 rcases ks with⟨_,rfl⟩|⟨c,rfl,q2,h3⟩
 ·cases hil
 have hlen:=sndsC_len L
 have e:sndsC L=sndsC (L.take i)++(sndC L[i]++sndsC (L.drop (i+1))):=by
  have:=sndsC_app (L.take i) (L.drop i);rw[List.take_append_drop] at this;rw[this,List.drop_eq_getElem_cons hil,sndsC]
 have hl1:(sndsC (L.take i)).length=0+i*5:=by rw[sndsC_len,List.length_take];omega
 refine⟨c,0+i*5,idxP_sl hil,fun j w hw=>y5 q2 ?_,?_⟩
 ·have hj : j < (sndC L[i]).length := by
   rcases Nat.lt_or_ge j (sndC L[i]).length with h|h
   ·exact h
   ·rw [List.getElem?_eq_none h] at hw
    cases hw
  rw[e, ←hl1,List.getElem?_append_right (by omega),Nat.add_sub_cancel_left,List.getElem?_append_left hj];exact hw
 ·rw [q2.ld (by omega), e, show 0 + i * 5 + 1 = (sndsC (L.take i)).length + 1 by omega, List.drop_append, List.drop_of_length_le (Nat.le_succ _), Nat.add_sub_cancel_left, List.nil_append]
  rfl
end
theorem sumG_mem:∀(l:List Sp),∀x∈l,szS x≤sumV l
 |[],_,h=>nomatch h
 |y::l,x,h=>by
  have e:sumV (y::l)=szS y+sumV l:=rfl;rw[e]
  rcases List.mem_cons.1 h with h|h
  ·rw [h]
   exact Nat.le_add_right _ _
  ·exact Nat.le_trans (sumG_mem l x h) (Nat.le_add_left _ _)
section
variable {n d D db:Nat}{h0 H H':AHeap}{a0:AV}{xs:List Sp}{Q:ARes→AHeap→Prop}
set_option maxHeartbeats 8000000 in
theorem law_loop(hn:1000000000<n)(hs:Slc h0.next h0 26 a0 (xs.map spC))(ho:∀x∈xs,SpOk x)(hsz:∀x∈xs,szS x≤16384)(hl:xs.length≤120){k33:AHeap→R}(hk:∀H,Wp (k33 H) Q):
    ∀ (todo : List Sp) (i fu : Nat) (H : AHeap) (lo nb : Nat → Prop) (sl : List (Int × Int × Int)) (s : DS) (L : List Snd) (B jb gb sb : Nat) (sv : AV), xs.drop i = todo → todo.length < fu → Gs h0.next lo nb H db jb gb sb sl s L B → SndAt H sv L → (∀ b ∈ blkV sv, h0.next ≤ b ∧ ¬ lo b ∧ ¬ nb b ∧ b ≠ gb ∧ b ≠ sb) → L.length ≤ i → i ≤ xs.length → B + 210 * todo.length ≤ 300000 → Tch [] h0 H →
      Wp (law23_GatewayFences_L0 (wL n (D+9) (d+8) false) n a0 (.ptr db 0) (xs.length:Int) k33 fu (.ptr gb 0) sv (i:Int) H) Q
  |_,_,0,_,_,_,_,_,_,_,_,_,_,_,_,hf,_,_,_,_,_,_,_=>by omega
  | [], i, fu + 1, H, lo, nb, sl, s, L, B, jb, gb, sb, sv, hd, hf, G, ks, hv, hL, hii, hB, T => by
    have:=dropN hd;rw[law23_GatewayFences_L0_s];unfold law23_GatewayFences_L0b;exact Wp.lett (y7 (by rw[decide_eq_false_iff_not];omega) (hk H))
  | c :: todo, i, fu + 1, H, lo, nb, sl, s, L, B, jb, gb, sb, sv, hd, hf, G, ks, hv, hL, hii, hB, T => by
    obtain⟨hi,hci,hd2⟩:=dropC hd;rw[List.length_cons] at hf hB;have hs2:=hs.tch T (Nat.le_refl _) (fun b hb=>nomatch hb);obtain⟨b,hb,e1,e2⟩:=hs2.row (i:=i) (by rw[List.length_map];exact hi);rw[List.getElem_map,hci] at e2;have hoc:=ho c (hci▸List.getElem_mem hi);obtain⟨icn,hen,_,_⟩:=id hoc;have hcs:=hsz c (hci▸List.getElem_mem hi);have hsc:szS c=min (c.s.length+c.m.da.length) 65536:=rfl;rw[law23_GatewayFences_L0_s];unfold law23_GatewayFences_L0b;refine Wp.lett (yc (by rw[decide_eq_true_eq];omega) (y8 fun k43 e43=>Wp.obind e1 (Wp.obind e2 (y11 (Mem.nil [] H) fun h2 M2=>?_))));rw[newP_eq H];refine y1a M2 rfl rfl (sp_one hoc) fun h3 M3=>?_;have t3:=M3.tch;have n3:=t3.1;have k3:=M3.at0.1;have l3:=M3.at0.2.1;have G3:=G.other t3 (fun _ h=>nomatch h);have T3:=T.trans t3;have ks3:=ks.tch t3 (fun _ _ h=>nomatch h);have nl3:¬shr lo H.next h3.next H.next:=fun hh=>by rcases hh.2 with h|h<;>omega
    have nn3:¬nb H.next:=fun h=>by have:=(G.Y.sep _ h).2.2;omega
    have hgH:=G.hg;have hsH:=G.hs;have g0:(spC c)[0]? =some (.int .i64 c.k):=rfl;have g1:(spC c)[1]? =some (.int .i64 c.n):=rfl;have g2:(spC c)[2]? =some (.int .u8 c.m.kd):=rfl;have g14:(spC c)[14]? =some (strA c.m.da):=rfl;have g18:(spC c)[18]? =some (.int .i64 c.m.sq):=rfl;have g25:(spC c)[25]? =some (.int .i64 c.p):=rfl;have gm:∀{h6:AHeap},RowH h6 H.next TSp (spC c)→ldRow h6 22 (.ptr H.next 2)=some (msC c.m):=fun k=>k.ld (o:=2) (n:=22) (show 2+22≤26 by decide);have gt:∀{h6:AHeap},RowH h6 H.next TSp (spC c)→ldRow h6 2 (.ptr H.next 16)=some [.int .i64 c.m.tt,.int .i64 c.m.te]:=fun k=>k.ld (o:=16) (n:=2) (show 16+2≤26 by decide)
    have K43:∀(H5:AHeap) (lo5 nb5:Nat→Prop) (sl5:List (Int×Int×Int)) (s5:DS) (L5:List Snd) (B5 jb5 gb5 sb5:Nat) (sv5:AV),Gs h0.next lo5 nb5 H5 db jb5 gb5 sb5 sl5 s5 L5 B5→SndAt H5 sv5 L5→(∀b∈blkV sv5,h0.next≤b∧¬lo5 b∧¬nb5 b∧b≠gb5∧b≠sb5)→L5.length≤i+1→B5+210*todo.length≤300000→Tch [] h0 H5→Wp (k43 (.ptr gb5 0) sv5 H5) Q:=by
      intro H5 lo5 nb5 sl5 s5 L5 B5 jb5 gb5 sb5 sv5 G5 ks5 hv5 hL5 hB5 T5;rw[e43];refine ye (by omega) (by omega) ?_;rw[show (i:Int)+1=((i+1:Nat):Int) by omega];exact law_loop hn hs ho hsz hl hk todo (i+1) fu H5 lo5 nb5 sl5 s5 L5 B5 jb5 gb5 sb5 sv5 hd2 (by omega) G5 ks5 hv5 hL5 (by omega) hB5 T5
    refine y26 M3 g0 (Wp.obind (avInt_int _ _) (Wp.lett ?_))
    by_cases hk2:c.k=2
    · have hp : (if 0 > c.n then (0 : Int) else c.n) < 9223372036854775808 := by
        have:=icn.2
        split<;>omega
      obtain⟨h4,S4,e4,G4,t4,hS4⟩:=G3.power (n:=n) (D:=D+3) (d:=d+7) hp;exact yc (beq_t hk2) (y26 M3 g1 (Wp.obind (avInt_int _ _) (Wp.lett (Wp.callN e4 (Wp.obind (avInt_int _ _) (K43 h4 _ nb sl _ L B jb gb sb sv G4 (ks3.tch t4 fun b hb h=>(hv b hb).2.1 (hS4 b h).1) (fun b hb=>⟨(hv b hb).1,fun h=>(hv b hb).2.1 h.1,(hv b hb).2.2⟩) (by omega) (by omega) (T3.trans' t4 fun b hb=>.inr (G3.Y.hl b (hS4 b hb)))))))))
    -- the question
    obtain⟨h4,e,a,e4,Q4,_⟩:=G3.ask (n:=n) (D:=D) (d:=d+7) (m:=c.m) (c:=decide (isRf c.m)) (by omega) (by omega) hen (by omega) (by omega) (fun H=>isRight_w (n:=n) (d:=D+7) hen) (fun h=>isRf_ok (of_decide_eq_true h))
    -- what it leaves
    have key:∃lo4 nb4 S4 s4 L4,Less (shr lo H.next h3.next) lo4∧Tch S4 h3 h4∧(∀b∈S4,shr lo H.next h3.next b∨nb b∨b=gb∨b=sb)∧(∀b,nb4 b→nb b∨h3.next≤b)∧a.en=.nsl∧(L4=L∨(L4=L++[xOf c.m]∧c.m.kd=9))∧
        (((∃ sl4, Gs h0.next lo4 nb4 h4 db jb gb sb sl4 s4 L4 (B + 200)) ∧ e ≠ 40 ∧ (a.er ≠ 0 → L4 = L) ∧ (e = 0 → a.kd ≠ 0 → a.sq = (lastZ L4 c.m.tk).q ∧ (a.er = 0 → aboveJ (lastZ L4 c.m.tk).t (lastZ L4 c.m.tk).e c.m.tt c.m.te = false))) ∨
         (e=40∧L4=L∧c.m.kd=9∧Mid h0.next lo4 h4 db s4 (B+200) L (xOf c.m))):=by
      rcases Q4 with⟨q1,q2,q3,lo4,nb4,S4,s4,a1,a2,a3,a4,hc⟩|⟨rfl,rfl,G4,t4⟩
      · rcases hc with ⟨c1, ⟨sl4, G4⟩, c2, c3, _⟩ | ⟨c1, c2, ⟨sl4, G4⟩, c3, c4, c5, c6⟩ | ⟨c1, c2, M4⟩
        ·exact⟨lo4,nb4,S4,s4,L,a1,a2,a3,a4,q1,.inl rfl,.inl ⟨⟨sl4,G4⟩,by omega,fun _=>rfl,fun _ _=>⟨c2,c3⟩⟩⟩
        · refine ⟨lo4, nb4, S4, s4, _, a1, a2, a3, a4, q1, .inr ⟨rfl, c2⟩, .inl ⟨⟨sl4, G4⟩, by omega, fun h => absurd c5 h, fun _ _ => ?_⟩⟩
          have hz:lastZ (L++[xOf c.m]) c.m.tk=xOf c.m:=by
            rw[lastZ_snoc];exact if_pos rfl
          rw[hz];exact⟨c3,fun _=>above_self _ _⟩
        ·exact⟨lo4,nb4,S4,s4,L,a1,a2,a3,a4,q1,.inl rfl,.inr ⟨c1,rfl,c2,M4⟩⟩
      ·exact⟨_,nb,[],s,L,shr_less,t4,(fun _ h=>nomatch h),fun b hb=>.inl hb,rfl,.inl rfl,.inl ⟨⟨sl,G4.mono (by omega)⟩,by decide,fun _=>rfl,fun h=>nomatch h⟩⟩
    obtain⟨lo4,nb4,S4,s4,L4,hle4,t4,hS4,hn4,haen,hL4,hcase⟩:=key;have n4:=t4.1
    have hS4N:∀b∈S4,h0.next≤b:=fun b hb=>by
      rcases hS4 b hb with h|h|h|h
      ·exact G3.Y.hl b h
      ·exact(G3.Y.sep b h).1
      ·rw[h];exact G3.gN
      ·rw[h];exact G3.sN
    have hH4:H.next ∉ S4:=fun h=>by
      rcases hS4 _ h with h|h|h|h
      ·exact nl3 h
      ·exact nn3 h
      ·omega
      ·omega
    have k4:=k3.tch t4 l3 hH4
    have hvS:∀b∈blkV sv,b ∉ S4:=fun b hb h=>by
      obtain⟨_,v1,v2,v3,v4⟩:=hv b hb
      rcases hS4 b h with h|h|h|h
      ·exact v1 h.1
      ·exact v2 h
      ·exact v3 h
      ·exact v4 h
    have ks4:=ks3.tch t4 hvS;have T4:Tch [] h0 h4:=T3.trans' t4 fun b hb=>.inr (hS4N b hb);refine y7 (beq_f hk2) (Wp.obind (gm k3) (Wp.callN e4 (Wp.obind (extT_0 _ _) (Wp.obind (avAgg_agg _) (Wp.obind (extT_1 _ _ _) (Wp.obind (avInt_int _ _) (y11 (Mem.nil [] h4) fun h5 M5=>?_)))))));rw[newP_eq h4];refine y1a M5 rfl rfl (ms_one (by rw[haen];rfl)) fun h6 M6=>Wp.lett (y8 fun j56 e56=>?_);have t6:=M6.tch;have n6:=t6.1;have ka6:=M6.at0.1;have la6:=M6.at0.2.1;have k6:=k4.tch t6 (by omega) (fun h=>nomatch h);have ks6:=ks4.tch t6 (fun _ _ h=>nomatch h);have T6:=T4.trans t6;have lsv:=ks.lt;have x0:h0.ex=[]:=by rw[←T.2.1];exact G.Y.K.ex
    have x6:h6.ex=[]:=by rw[T6.2.1,x0]
    have m0one:(msC m0).all AV.one=true:=ms_one rfl
    have K56:∀bb:Bool,(bb=false→e≠40)→Wp (j56 bb h6) Q:=by
      intro bb hbb;rw[e56];refine y8 fun k85 e85=>?_
      -- what is asked of the list
      have K85:∀(h7:AHeap) (lo7 nb7:Nat→Prop) (sl7:List (Int×Int×Int)) (s7:DS) (L7:List Snd) (B7 jb7 gb7 sb7:Nat) (a7:Ms) (t10:Int),Gs h0.next lo7 nb7 h7 db jb7 gb7 sb7 sl7 s7 L7 B7→RowH h7 H.next TSp (spC c)→H.next<h7.next→RowH h7 h4.next TMsg (msC a7)→h4.next<h7.next→SndAt h7 sv L→B7+210*todo.length≤300000→Tch [] h0 h7→(L7=L∨(L7=L++[xOf c.m]∧c.m.kd=9))→(a7.er≠0→L7=L)→(t10=0→a7.kd≠0→a7.sq=(lastZ L7 c.m.tk).q∧(a7.er=0→aboveJ (lastZ L7 c.m.tk).t (lastZ L7 c.m.tk).e c.m.tt c.m.te=false))→Wp (k85 (.ptr gb7 0) t10 h7) Q:=by
        intro h7 lo7 nb7 sl7 s7 L7 B7 jb7 gb7 sb7 a7 t10 G7 k7 l7 ka7 la7 ks7 hB7 T7 hL7 f2 f3
        have hL7l:L7.length≤L.length+1∧L.length≤L7.length:=by
          rcases hL7 with rfl|⟨rfl,_⟩
          ·omega
          · rw [List.length_append, List.length_singleton]
            omega
        obtain⟨h8,v8,e8,kv8,hv8,t8⟩:=list_w (n:=n) (D:=D+7) (d:=d+5) G7.row G7.Y.J (fun b hb=>(G7.Y.sep b hb).2.2) G7.Y.K.ex (by omega) (by omega);have n8:=t8.1;have k8:=k7.tch t8 l7 (fun h=>nomatch h);have ka8:=ka7.tch t8 la7 (fun h=>nomatch h);have ks8:=ks7.tch t8 (fun _ _ h=>nomatch h)
        have htk:L7.take L.length=L:=by
          rcases hL7 with rfl|⟨rfl,_⟩
          ·exact List.take_length
          ·exact List.take_left' rfl
        have a20:(msC a7)[20]? =some (.int .i64 a7.er):=rfl;have a16:(msC a7)[16]? =some (.int .i64 a7.sq):=rfl;have a0':(msC a7)[0]? =some (.int .u8 a7.kd):=rfl;rw[e85];refine Wp.callN e8 (Wp.obind (extT_0 _ _) (Wp.obind (extT_1 _ _ _) (Wp.obind (avBool_bool _) (Wp.lett (y8 fun j89 e89=>y7 rfl (Wp.obind kv8.len (Wp.obind ks8.len (Wp.lett ?_))))))));rw[decide_eq_false (show ¬(L7.length:Int)<(L.length:Int) by omega),e89];refine y8 fun j97 e97=>y7 rfl (Wp.obind kv8.len (Wp.obind ks8.len (ye (by omega) (by omega) (Wp.lett ?_))));rw[decide_eq_false (show ¬(L7.length:Int)>(L.length:Int)+1 by omega),e97];obtain⟨v10,e10,r10⟩:=kv8.firsts hL7l.2;rw[htk] at r10;refine y8 fun j106 e106=>y7 rfl (Wp.obind ks8.len (Wp.outK e10 (Wp.callN (same_r (n:=n) (D:=D+9) (d:=d+7) r10 ks8.rds (by omega) (by omega)) (Wp.obind (avBool_bool _) (Wp.lett ?_)))));rw[e106];refine y7 rfl (Wp.obind (y5 ka8 a20) (Wp.obind (avInt_int _ _) (Wp.lett (y8 fun j116 e116=>?_))))
        have K116:Wp (j116 false h8) Q:=by
          rw[e116];refine y7 rfl (y8 fun k118 e118=>?_)
          have K118:Wp (k118 false h8) Q:=by
            rw[e118];refine y7 rfl (y11 (Mem.nil [] h8) fun h9 M9=>Wp.obind kv8.len (y8 fun k129 e129=>?_));have t9:=M9.tch;have n9:=t9.1;have l9:=M9.at0.2.1;have hb0:h8.next ∉ blkV v8:=fun h=>by have:=kv8.lt _ h;omega
            refine fen_loop (D:=D+8) (d:=d+7) (h:=h9) (b0:=h8.next) (pb:=H.next) (c:=c) rfl rfl G7.Y.ok (kv8.tch t9 (fun _ _ h=>nomatch h)) (by omega) (k8.tch t9 (by omega) (fun h=>nomatch h)) (by omega) l9 (by omega) hb0 (fun h10 k10 t10'=>?_) L7.length 0 n h9 (Nat.add_zero _) (by omega) M9.at0.1 (Tch.refl _ _);have n10:=t10'.1;have T710:Tch [] h7 h10:=(t8.trans t9).trans' t10' fun b hb=>.inr (by rw[List.mem_singleton.1 hb];exact n8);have ka10:=(ka8.tch t9 (by omega) (fun h=>nomatch h)).tch t10' (by omega) (fun h=>by have:=List.mem_singleton.1 h;omega);have kp10:=(k8.tch t9 (by omega) (fun h=>nomatch h)).tch t10' (by omega) (fun h=>by have:=List.mem_singleton.1 h;omega);have kv10:=(kv8.tch t9 (fun _ _ h=>nomatch h)).tch t10' (fun b hb h=>hb0 (List.mem_singleton.1 h▸hb));have G10:=G7.other T710 (fun _ h=>nomatch h);rw[e129,newP_eq h8];refine Wp.lett (y8 fun j198 e198=>?_)
            have K198:∀b:Bool,(b=true→t10=0∧a7.kd≠0)→Wp (j198 b h10) Q:=fun b hb=>by
              rw[e198];refine y8 fun j216 e216=>?_
              have K216:Wp (j216 false h10) Q:=by
                rw[e216];refine y7 rfl (K43 h10 _ nb7 sl7 s7 L7 B7 jb7 gb7 sb7 v8 G10 kv10 (fun b hb=>?_) (by omega) hB7 (T7.trans T710));have h1:=hv8 b hb;have h2:=kv8.lt b hb;have h3:=G7.hg;have h4:=G7.hs;have h5:=T7.1;exact⟨by omega,fun h=>by rcases h.2 with h|h<;>omega,fun h=>by have:=(G7.Y.sep b h).2.2;omega,by omega,by omega⟩
              cases b with
              |false=>exact y7 rfl K216
              | true =>
                obtain⟨b1,b2⟩:=hb rfl;obtain⟨q1,q2⟩:=f3 b1 b2;refine yc rfl (Wp.obind (y5 ka10 a16) (Wp.obind (avInt_int _ _) (Wp.lett (y8 fun j215 e215=>y7 (bne_f q1) (Wp.obind (y5 ka10 a20) (Wp.obind (avInt_int _ _) (Wp.lett (y8 fun j214 e214=>?_))))))))
                by_cases hae:a7.er=0
                · refine yc (beq_t hae) (Wp.obind (k10.ldAll rfl) (Wp.obind (gt kp10) (Wp.callN ((wL_b 19).trans (above_w (n := n) (d := D + 8) _ _ _ _)) (Wp.obind (avBool_bool _) ?_))))
                  rw[q2 hae,e214,e215];exact K216
                · refine y7 (beq_f hae) ?_
                  rw[e214,e215];exact K216
            by_cases ht:t10=0
            · refine yc (beq_t ht) (Wp.obind (y5 ka10 a0') (Wp.obind (avInt_int _ _) (Wp.lett (K198 _ fun h => ⟨ht, fun h0 => ?_⟩))))
              rw[bne_f h0] at h;cases h
            ·exact y7 (beq_f ht) (K198 false (fun h=>nomatch h))
          refine Wp.obind kv8.len (Wp.obind ks8.len (Wp.lett ?_))
          rcases hL7 with rfl|⟨hx7,hkd⟩
          ·exact y7 (by rw[decide_eq_false_iff_not];omega) K118
          · have hlt : L.length < L7.length := by rw [hx7, List.length_append, List.length_singleton]; omega
            obtain⟨p,o,p1,p2,p3⟩:=kv8.cell hlt
            have hxe:L7[L.length]=xOf c.m:=by
              have:L7[L.length]? =some (xOf c.m):=by
                rw[hx7,List.getElem?_append_right (Nat.le_refl _),Nat.sub_self];rfl
              rw[List.getElem?_eq_getElem hlt] at this;exact Option.some.inj this
            rw[hxe] at p2 p3
            have hs1:(!eqS (xOf c.m).s c.m.da)=false:=by
              have hs0:(xOf c.m).s=c.m.da:=rfl;rw[eqS_true.2 hs0];rfl
            refine yc (by rw[decide_eq_true_eq];omega) (Wp.obind (y5 k8 g2) (Wp.obind (avInt_int _ _) (Wp.lett (y7 (bne_f hkd) (Wp.obind ks8.len (Wp.obind p1 (Wp.obind (fldP_ptr _ _ _) (Wp.obind (p2 4 _ rfl) (Wp.obind (avStr_str _) (Wp.obind (y5 k8 g14) (Wp.obind (avStr_str _) (Wp.lett (y7 hs1 (Wp.obind ks8.len (Wp.obind p1 (Wp.obind (fldP_ptr _ _ _) (Wp.obind (p2 3 _ rfl) (Wp.obind (avInt_int _ _) (Wp.obind (y5 k8 g18) (Wp.obind (avInt_int _ _) (Wp.lett (y7 (bne_f rfl) (Wp.obind ks8.len (Wp.obind p1 (Wp.obind (fldP_ptr _ _ _) (Wp.obind p3 (Wp.obind (gt k8) (Wp.obind (eqFen _ _ _ _) (Wp.lett ?_)))))))))))))))))))))))))))));rw[decide_eq_true (⟨rfl,rfl⟩:(xOf c.m).t=c.m.tt∧(xOf c.m).e=c.m.te)];exact K118
        by_cases hae:a7.er=0
        ·exact y7 (bne_f hae) K116
        · have hl := f2 hae
          refine yc (bne_t hae) (Wp.obind kv8.len (Wp.obind ks8.len (Wp.lett ?_)));rw[show ((L7.length:Int) != (L.length:Int))=false from bne_f (by rw[hl])];exact K116
      have l4H:H.next<h4.next:=by omega
      cases bb with
      | false =>
        have he40:=hbb rfl
        rcases hcase with⟨⟨sl4,G4⟩,_,c2,c3⟩|⟨h,_⟩
        ·exact y7 rfl (K85 h6 _ nb4 sl4 s4 L4 (B+200) jb gb sb a e (G4.other t6 (fun _ h=>nomatch h)) k6 (by omega) ka6 la6 ks6 (by omega) T6 hL4 c2 c3)
        ·exact absurd h he40
      | true =>
        refine yc rfl (Wp.obind (y5 k6 g25) (Wp.obind (avInt_int _ _) (y31 (Mem.nil [] h6) (bldI1 _ _) rfl (by rw[x6];rfl) fun h7 M7=>?_)));have t7:=M7.tch;have n7:=t7.1;have l7:=M7.at0.2.1;have k7:=k6.tch t7 (by omega) (fun h=>nomatch h);have ka7:=ka6.tch t7 la6 (fun h=>nomatch h);have ks7:=ks6.tch t7 (fun _ _ h=>nomatch h);have rd:RdI (shr (shr lo4 h4.next h6.next) h6.next h7.next) h7 (.sl h6.next 0 1 1) [c.p]:=row_rdi M7.at0.1 l7 fun h=>by rcases h.2 with h|h<;>omega
        have hcr:∃h8 S8 s8 L8,wL n (D+9) (d+8) false 14 [.ptr db 0,.sl h6.next 0 1 1,.int .i64 c.n] h7=some (.ret (.int .i64 0),h8)∧Crd h0.next (shr (shr lo4 h4.next h6.next) h6.next h7.next) h8 db s8 (B+200) L8∧Tch S8 h7 h8∧(∀b∈S8,shr (shr lo4 h4.next h6.next) h6.next h7.next b)∧(L8=L∨(L8=L++[xOf c.m]∧c.m.kd=9)):=by
          rcases hcase with⟨⟨sl4,G4⟩,_⟩|⟨_,_,hkd,M4⟩
          · have G7 := (G4.other t6 (fun _ h => nomatch h)).other t7 (fun _ h => nomatch h)
            obtain⟨h8,S8,s8,w8,C8,t8,hS8⟩:=G7.Y.crash (n:=n) (D:=D+3) (d:=d+7) (by omega) (by omega) (torn:=c.n) icn.2 (zs:=[c.p]) (show (1:Nat)<9223372036854775808 by decide) rd;exact⟨h8,S8,s8,L4,w8,C8,t8,hS8,hL4⟩
          · have M7' := (M4.other t6 (fun _ h => nomatch h)).other t7 (fun _ h => nomatch h)
            obtain⟨h8,S8,s8,L8,w8,hL8,C8,t8,hS8⟩:=M7'.crash (n:=n) (D:=D+3) (d:=d+7) (by omega) (by omega) (torn:=c.n) icn.2 (zs:=[c.p]) (show (1:Nat)<9223372036854775808 by decide) rd;exact⟨h8,S8,s8,L8,w8,C8,t8,hS8,hL8.imp id fun h=>⟨h,hkd⟩⟩
        obtain⟨h8,S8,s8,L8,w8,C8,t8,hS8,hL8⟩:=hcr;have n8:=t8.1;obtain⟨lo9,nb9,h9,jb9,gb9,sb9,S9,s9,w9,G9,_,hle9,hn9,⟨hg9,hs9⟩,t9,hS9⟩:=C8.gopen (n:=n) (D:=D+3) (d:=d+1) hn (by omega);have n9:=t9.1
        have no7:∀b,H.next≤b→b<h7.next→b≠h3.next→(b<h3.next∨h4.next≤b)→¬shr (shr lo4 h4.next h6.next) h6.next h7.next b:=fun b q1 q2 _ q3 h=>by
          have:=hle4 _ h.1.1;have h1:=this.2;have h2:=h.1.2;have h3:=h.2;omega
        have pH:¬shr (shr lo4 h4.next h6.next) h6.next h7.next H.next:=no7 _ (Nat.le_refl _) (by omega) (by omega) (.inl l3)
        have p4:¬shr (shr lo4 h4.next h6.next) h6.next h7.next h4.next:=fun h=>by
          have h2:=h.1.2;omega
        have psv:∀b∈blkV sv,¬shr (shr lo4 h4.next h6.next) h6.next h7.next b:=fun b hb h=>(hv b hb).2.1 (hle4 _ h.1.1).1;have k9:=(k7.tch t8 (by omega) (fun h=>pH (hS8 _ h))).tch t9 (by omega) (fun h=>pH (hS9 _ h));have ka9:=(ka7.tch t8 (by omega) (fun h=>p4 (hS8 _ h))).tch t9 (by omega) (fun h=>p4 (hS9 _ h));have ks9:=(ks7.tch t8 (fun b hb h=>psv b hb (hS8 _ h))).tch t9 (fun b hb h=>psv b hb (hS9 _ h));have T7:=T6.trans t7;have T9:Tch [] h0 h9:=(T7.trans' t8 fun b hb=>.inr (C8.hl b (hS8 b hb))).trans' t9 fun b hb=>.inr (C8.hl b (hS9 b hb));refine Wp.obind (y5 k7 g1) (Wp.obind (avInt_int _ _) (Wp.callN w8 (Wp.obind (avInt_int _ _) (Wp.callN w9 (Wp.obind (extT_0 _ _) (Wp.obind (extT_1 _ _ _) (Wp.obind (avInt_int _ _) (Wp.lett (y8 fun j74 e74=>y7 rfl (Wp.outK (eqGw gb9 h9) (Wp.obind (avBool_bool _) ?_)))))))))));rw[e74];refine y7 rfl (Wp.stAll ka9 rfl rfl m0one fun h10 k10 t10 n10=>?_)
        have q10:∀b∈[h4.next],¬lo9 b∧¬nb9 b∧b≠gb9∧b≠sb9:=fun b hb=>by
          rw[List.mem_singleton.1 hb];exact⟨fun h=>p4 (hle9 _ h),fun h=>by have:=hn9 _ h;omega,by omega,by omega⟩
        have T10:Tch [] h0 h10:=T9.trans' t10 fun b hb=>.inr (by rw[List.mem_singleton.1 hb];have:=T4.1;omega)
        exact K85 h10 _ nb9 [] s9 L8 (B+200+4) jb9 gb9 sb9 m0 0 (G9.other t10 q10) (k9.tch t10 (by omega) (fun h=>by have:=List.mem_singleton.1 h;omega)) (by omega) k10 (by omega) (ks9.tch t10 fun b hb h=>by
          have h1:=List.mem_singleton.1 h;have h2:=lsv b hb;omega) (by omega) T10 hL8 (fun h=>absurd rfl h) fun _ h=>absurd rfl h
    by_cases he:e=40
    ·exact yc (beq_t he) (K56 true (fun h=>nomatch h))
    ·refine y7 (beq_f he) (Wp.obind (y5 k6 g0) (Wp.obind (avInt_int _ _) (Wp.lett (K56 _ fun _=>he))))
end
set_option maxRecDepth 100000 in
set_option maxHeartbeats 1000000 in
theorem gatewayFences_says(h:AHeap)(hX:h.ex=[])(xs:List AV)(hP:ArgsP Pg h.next h 12 [48] xs):∃h',Says Pg 4 xs h (.ret (.bool true)) h':=by
 obtain⟨a,_,rfl,hp0,hP⟩:=args_cons hP
 obtain rfl:=args0 hP
 obtain⟨l,hs,ho,hll⟩:=sps_of hp0;have hrb:reachBytes=140737488351232:=rfl;obtain⟨n,hn⟩:∃n,140737488351232<n:=⟨140737488351233,Nat.lt_succ_self _⟩
 suffices hK:Wp (law23_GatewayFences (wL n (0+9) (0+8) false) n a h) fun r _=>r=.ret (.bool true) by
  obtain⟨_,h',e,rfl⟩:=hK;exact⟨h',law23_GatewayFences_ok (wL_ok n (0+9) (0+8)).says e⟩
 unfold law23_GatewayFences;obtain⟨h2,e2,T2⟩:=works_w (n:=n) (D:=0) (d:=0) hX (by omega);have hs2:=hs.tch T2 (Nat.le_refl _) (fun b hb=>nomatch hb);obtain⟨h3,hv,e3,t3,hhv⟩:=heavy_w (n:=n) (D:=0+9) (d:=7) hs2 T2.1 ho hll (by omega);refine Wp.callN e2 (Wp.obind (avBool_bool _) (Wp.lett (y7 rfl (Wp.callN e3 (Wp.obind (avBool_bool _) ?_)))));cases hv with
 |true=>exact yc rfl (Wp.ret rfl)
 |false=>
 obtain⟨hsum,hlen⟩:=hhv rfl;have T3:=T2.trans t3;refine y7 rfl ?_;obtain⟨h4,e4,t4,lo5,nb5,h5,jb,gb,sb,S5,s5,e5,G5,_,t5,hS5⟩:=fresh (H:=h3) (n:=n) (D:=3) (d:=1) (N:=h.next) (by rw[T3.2.1,hX]) (by omega) T3.1;have T5:Tch [] h h5:=(T3.trans t4).trans' t5 fun b hb=>.inr (hS5 b hb);have hlenL:=hs.len;rw[List.length_map] at hlenL;refine Wp.callN e4 (Wp.callN e5 (Wp.obind (extT_0 _ _) (Wp.obind (extT_1 _ _ _) (Wp.obind (avInt_int _ _) (Wp.lett (y7 rfl (Wp.obind hlenL (y8 fun k33 e33=>law_loop (D:=0) (d:=0) (h0:=h) (by omega) hs ho (fun x hx=>Nat.le_trans (sumG_mem l x hx) hsum) hlen (fun H=>?_) l 0 n h5 _ _ [] s5 [] 4 jb gb sb .nsl rfl (by omega) G5 (.inl ⟨rfl,rfl⟩) (fun _ h=>nomatch h) (Nat.le_refl _) (Nat.zero_le _) (by omega) T5))))))));rw[e33];exact Wp.ret rfl
end Go.Proofs.Ytfcedccphhmdgaa
