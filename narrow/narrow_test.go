package narrow_test

import (
	"math"
	"slices"
	"testing"

	"spanmeadow/api"
	"spanmeadow/narrow"
	"spanmeadow/plain"
)

// top is the greatest number that may be, and half the half of it.
const (
	top  = api.MaxNumber
	half = top / 2
)

// spans are x, y and z, by their ends.
type spans [3][2]int

func (s spans) at(i int) api.Span { return api.Span{Lo: s[i][0], Hi: s[i][1]} }

// none is what comes beside an error.
var none = spans{}

// row is three spans, what comes of them, and what is told.
type row struct {
	given, want spans
	told        api.Errno
}

// way is one of the calls, and what it is made of.
type way struct {
	name string
	call func(x, y, z api.Span) (api.Span, api.Span, api.Span, error)
	// make tells of a span and another one what they are together, or times each other; undo, if it may be asked, which span goes with the second one to the first.
	make, undo func(a, b [2]int) ([2]int, api.Errno)
	asked      func(b [2]int) bool
	// together and apart are the same of one number and another one, if they may be asked.
	together func(a, b point) point
	apart    func(a, b point) (point, bool)
}

var (
	sum   = way{"Sum", narrow.Sum, added, less, always, pointsAdded, pointsLess}
	times = way{"Times", narrow.Times, timesEach, by, without0, pointsTimes, pointsBy}
	both  = []way{sum, times}
)

// checkRow asks one call, and sees that it tells that.
func checkRow(t *testing.T, w way, r row) {
	t.Helper()
	x, y, z, err := w.call(r.given.at(0), r.given.at(1), r.given.at(2))
	got := spans{{x.Lo, x.Hi}, {y.Lo, y.Hi}, {z.Lo, z.Hi}}
	if got != r.want || plain.Told(err) != r.told {
		t.Errorf("%s(%v) = %v, %v; want %v, %v", w.name, r.given, got, err, r.want, r.told)
	}
}

func checkRows(t *testing.T, w way, rows []row) {
	t.Helper()
	for _, r := range rows {
		checkRow(t, w, r)
	}
}

// sumKinds have each kind of x with each kind of y; they, and all other rows, were reckoned apart, in exact fractions.
func sumKinds() []row {
	return []row{
		{spans{{269, 269}, {1501, 1501}, {0, 1891}}, spans{{269, 269}, {1501, 1501}, {1770, 1770}}, api.OK},
		{spans{{690, 690}, {-2612, -2612}, {-2374, 3760}}, spans{{690, 690}, {-2612, -2612}, {-1922, -1922}}, api.OK},
		{spans{{526, 526}, {0, 0}, {233, 3793}}, spans{{526, 526}, {0, 0}, {526, 526}}, api.OK},
		{spans{{2142, 2142}, {488, 1345}, {2717, 2717}}, spans{{2142, 2142}, {575, 575}, {2717, 2717}}, api.OK},
		{spans{{1270, 1270}, {-3617, -1101}, {-44, -44}}, spans{{1270, 1270}, {-1314, -1314}, {-44, -44}}, api.OK},
		{spans{{3224, 3224}, {-3693, 238}, {-694, -348}}, spans{{3224, 3224}, {-3693, -3572}, {-469, -348}}, api.OK},
		{spans{{2725, 2725}, {0, 3591}, {0, 3110}}, spans{{2725, 2725}, {0, 385}, {2725, 3110}}, api.OK},
		{spans{{2429, 2429}, {-2633, 0}, {-961, 0}}, spans{{2429, 2429}, {-2633, -2429}, {-204, 0}}, api.OK},
		{spans{{-3575, -3575}, {3575, 3575}, {0, 0}}, spans{{-3575, -3575}, {3575, 3575}, {0, 0}}, api.OK},
		{spans{{-1434, -1434}, {-1530, -1530}, {-3526, 0}}, spans{{-1434, -1434}, {-1530, -1530}, {-2964, -2964}}, api.OK},
		{spans{{-807, -807}, {0, 0}, {-3494, -477}}, spans{{-807, -807}, {0, 0}, {-807, -807}}, api.OK},
		{spans{{-2924, -2924}, {1246, 3422}, {0, 0}}, spans{{-2924, -2924}, {2924, 2924}, {0, 0}}, api.OK},
		{spans{{-252, -252}, {-2312, -1655}, {-2312, -2312}}, spans{{-252, -252}, {-2060, -2060}, {-2312, -2312}}, api.OK},
		{spans{{-3255, -3255}, {-2607, 3729}, {-2575, 1671}}, spans{{-3255, -3255}, {680, 3729}, {-2575, 474}}, api.OK},
		{spans{{-657, -657}, {0, 3264}, {1626, 1626}}, spans{{-657, -657}, {2283, 2283}, {1626, 1626}}, api.OK},
		{spans{{-2228, -2228}, {-3299, 0}, {-2565, -2565}}, spans{{-2228, -2228}, {-337, -337}, {-2565, -2565}}, api.OK},
		{spans{{0, 0}, {2065, 2065}, {1728, 3120}}, spans{{0, 0}, {2065, 2065}, {2065, 2065}}, api.OK},
		{spans{{0, 0}, {-126, -126}, {-3681, 3046}}, spans{{0, 0}, {-126, -126}, {-126, -126}}, api.OK},
		{spans{{0, 0}, {0, 0}, {0, 0}}, spans{{0, 0}, {0, 0}, {0, 0}}, api.OK},
		{spans{{0, 0}, {942, 3381}, {0, 2505}}, spans{{0, 0}, {942, 2505}, {942, 2505}}, api.OK},
		{spans{{0, 0}, {-3309, -618}, {-2386, -266}}, spans{{0, 0}, {-2386, -618}, {-2386, -618}}, api.OK},
		{spans{{0, 0}, {-563, 2128}, {268, 2268}}, spans{{0, 0}, {268, 2128}, {268, 2128}}, api.OK},
		{spans{{0, 0}, {0, 3998}, {2254, 2254}}, spans{{0, 0}, {2254, 2254}, {2254, 2254}}, api.OK},
		{spans{{0, 0}, {-3932, 0}, {-3870, 0}}, spans{{0, 0}, {-3870, 0}, {-3870, 0}}, api.OK},
		{spans{{761, 3494}, {416, 416}, {0, 3308}}, spans{{761, 2892}, {416, 416}, {1177, 3308}}, api.OK},
		{spans{{442, 2602}, {-1492, -1492}, {437, 3073}}, spans{{1929, 2602}, {-1492, -1492}, {437, 1110}}, api.OK},
		{spans{{558, 3540}, {0, 0}, {2570, 2570}}, spans{{2570, 2570}, {0, 0}, {2570, 2570}}, api.OK},
		{spans{{468, 1778}, {904, 3948}, {-3921, 1646}}, spans{{468, 742}, {904, 1178}, {1372, 1646}}, api.OK},
		{spans{{1455, 2997}, {-1565, -1075}, {0, 0}}, spans{{1455, 1565}, {-1565, -1455}, {0, 0}}, api.OK},
		{spans{{1065, 2885}, {-1948, 181}, {-3956, 0}}, spans{{1065, 1948}, {-1948, -1065}, {-883, 0}}, api.OK},
		{spans{{212, 2361}, {0, 2555}, {0, 1599}}, spans{{212, 1599}, {0, 1387}, {212, 1599}}, api.OK},
		{spans{{1176, 3251}, {-3274, 0}, {-3824, -806}}, spans{{1176, 2468}, {-3274, -1982}, {-2098, -806}}, api.OK},
		{spans{{-2979, -288}, {895, 895}, {-78, -78}}, spans{{-973, -973}, {895, 895}, {-78, -78}}, api.OK},
		{spans{{-3509, -1900}, {-547, -547}, {-3553, -3553}}, spans{{-3006, -3006}, {-547, -547}, {-3553, -3553}}, api.OK},
		{spans{{-2893, -663}, {0, 0}, {-2523, 2407}}, spans{{-2523, -663}, {0, 0}, {-2523, -663}}, api.OK},
		{spans{{-3301, -935}, {853, 2694}, {1708, 2716}}, spans{{-986, -935}, {2643, 2694}, {1708, 1759}}, api.OK},
		{spans{{-3895, -965}, {-2940, -315}, {-1475, 0}}, spans{{-1160, -965}, {-510, -315}, {-1475, -1280}}, api.OK},
		{spans{{-1150, -32}, {-418, 1570}, {-3260, -1170}}, spans{{-1150, -752}, {-418, -20}, {-1568, -1170}}, api.OK},
		{spans{{-2005, -986}, {0, 1514}, {0, 0}}, spans{{-1514, -986}, {986, 1514}, {0, 0}}, api.OK},
		{spans{{-3514, -1985}, {-629, 0}, {-2140, -2140}}, spans{{-2140, -1985}, {-155, 0}, {-2140, -2140}}, api.OK},
		{spans{{-3432, 1547}, {1695, 1695}, {2270, 2270}}, spans{{575, 575}, {1695, 1695}, {2270, 2270}}, api.OK},
		{spans{{-1645, 2240}, {-1163, -1163}, {0, 2814}}, spans{{1163, 2240}, {-1163, -1163}, {0, 1077}}, api.OK},
		{spans{{-2014, 856}, {0, 0}, {0, 0}}, spans{{0, 0}, {0, 0}, {0, 0}}, api.OK},
		{spans{{-391, 1830}, {1802, 3451}, {-2479, 2768}}, spans{{-391, 966}, {1802, 3159}, {1411, 2768}}, api.OK},
		{spans{{-3935, 3288}, {-3397, -397}, {1615, 3211}}, spans{{2012, 3288}, {-1673, -397}, {1615, 2891}}, api.OK},
		{spans{{-1787, 2879}, {-659, 3230}, {-3295, -1865}}, spans{{-1787, -1206}, {-659, -78}, {-2446, -1865}}, api.OK},
		{spans{{-2228, 561}, {0, 3379}, {-2656, 0}}, spans{{-2228, 0}, {0, 2228}, {-2228, 0}}, api.OK},
		{spans{{-2829, 3570}, {-2330, 0}, {1528, 1528}}, spans{{1528, 3570}, {-2042, 0}, {1528, 1528}}, api.OK},
		{spans{{0, 1511}, {2142, 2142}, {0, 2255}}, spans{{0, 113}, {2142, 2142}, {2142, 2255}}, api.OK},
		{spans{{0, 2393}, {-3839, -3839}, {-3264, 0}}, spans{{575, 2393}, {-3839, -3839}, {-3264, -1446}}, api.OK},
		{spans{{0, 3934}, {0, 0}, {2556, 2556}}, spans{{2556, 2556}, {0, 0}, {2556, 2556}}, api.OK},
		{spans{{0, 2686}, {1427, 2252}, {520, 2079}}, spans{{0, 652}, {1427, 2079}, {1427, 2079}}, api.OK},
		{spans{{0, 337}, {-2688, -938}, {-893, -893}}, spans{{45, 337}, {-1230, -938}, {-893, -893}}, api.OK},
		{spans{{0, 2935}, {-332, 3617}, {-1765, -73}}, spans{{0, 259}, {-332, -73}, {-332, -73}}, api.OK},
		{spans{{0, 3690}, {0, 1496}, {-3803, 397}}, spans{{0, 397}, {0, 397}, {0, 397}}, api.OK},
		{spans{{0, 2893}, {-1837, 0}, {0, 0}}, spans{{0, 1837}, {-1837, 0}, {0, 0}}, api.OK},
		{spans{{-1993, 0}, {2798, 2798}, {1593, 1593}}, spans{{-1205, -1205}, {2798, 2798}, {1593, 1593}}, api.OK},
		{spans{{-2787, 0}, {-2938, -2938}, {-3120, 0}}, spans{{-182, 0}, {-2938, -2938}, {-3120, -2938}}, api.OK},
		{spans{{-3099, 0}, {0, 0}, {-2180, 2756}}, spans{{-2180, 0}, {0, 0}, {-2180, 0}}, api.OK},
		{spans{{-523, 0}, {210, 3289}, {-2926, -275}}, spans{{-523, -485}, {210, 248}, {-313, -275}}, api.OK},
		{spans{{-2465, 0}, {-2565, -48}, {-3052, -3052}}, spans{{-2465, -487}, {-2565, -587}, {-3052, -3052}}, api.OK},
		{spans{{-2787, 0}, {-1046, 1558}, {681, 3992}}, spans{{-877, 0}, {681, 1558}, {681, 1558}}, api.OK},
		{spans{{-3392, 0}, {0, 3070}, {0, 3775}}, spans{{-3070, 0}, {0, 3070}, {0, 3070}}, api.OK},
		{spans{{-2621, 0}, {-911, 0}, {0, 0}}, spans{{0, 0}, {0, 0}, {0, 0}}, api.OK},
	}
}

// timesKinds likewise.
func timesKinds() []row {
	return []row{
		{spans{{741, 741}, {892, 892}, {571, 1728}}, spans{{741, 741}, {892, 892}, {660, 661}}, api.OK},
		{spans{{1142, 1142}, {-164, -164}, {-854, 602}}, spans{{1142, 1142}, {-164, -164}, {-188, -187}}, api.OK},
		{spans{{2742, 2742}, {0, 0}, {0, 0}}, spans{{2742, 2742}, {0, 0}, {0, 0}}, api.OK},
		{spans{{3064, 3064}, {134, 743}, {669, 669}}, spans{{3064, 3064}, {218, 219}, {669, 669}}, api.OK},
		{spans{{3901, 3901}, {-2696, -434}, {-2394, -2394}}, spans{{3901, 3901}, {-614, -613}, {-2394, -2394}}, api.OK},
		{spans{{2235, 2235}, {-64, 1517}, {0, 3478}}, spans{{2235, 2235}, {0, 1517}, {0, 3391}}, api.OK},
		{spans{{3493, 3493}, {0, 414}, {-1150, 0}}, spans{{3493, 3493}, {0, 0}, {0, 0}}, api.OK},
		{spans{{3827, 3827}, {-422, 0}, {-2453, -9}}, spans{{3827, 3827}, {-422, -2}, {-1615, -9}}, api.OK},
		{spans{{-1842, -1842}, {1619, 1619}, {-3804, -2155}}, spans{{-1842, -1842}, {1619, 1619}, {-2983, -2982}}, api.OK},
		{spans{{-976, -976}, {-3024, -3024}, {2347, 3336}}, spans{{-976, -976}, {-3024, -3024}, {2951, 2952}}, api.OK},
		{spans{{-443, -443}, {0, 0}, {-2006, 3226}}, spans{{-443, -443}, {0, 0}, {0, 0}}, api.OK},
		{spans{{-3061, -3061}, {573, 2836}, {-2049, 0}}, spans{{-3061, -3061}, {573, 670}, {-2049, -1753}}, api.OK},
		{spans{{-345, -345}, {-3510, -2741}, {0, 1108}}, spans{{-345, -345}, {-3212, -2741}, {945, 1108}}, api.OK},
		{spans{{-2630, -2630}, {-3396, 554}, {379, 379}}, spans{{-2630, -2630}, {-145, -144}, {379, 379}}, api.OK},
		{spans{{-3868, -3868}, {0, 2506}, {-484, -484}}, spans{{-3868, -3868}, {125, 126}, {-484, -484}}, api.OK},
		{spans{{-2870, -2870}, {-51, 0}, {0, 0}}, spans{{-2870, -2870}, {0, 0}, {0, 0}}, api.OK},
		{spans{{0, 0}, {2834, 2834}, {-3678, 52}}, spans{{0, 0}, {2834, 2834}, {0, 0}}, api.OK},
		{spans{{0, 0}, {-802, -802}, {0, 0}}, spans{{0, 0}, {-802, -802}, {0, 0}}, api.OK},
		{spans{{0, 0}, {0, 0}, {0, 537}}, spans{{0, 0}, {0, 0}, {0, 0}}, api.OK},
		{spans{{0, 0}, {803, 2499}, {-2714, 0}}, spans{{0, 0}, {803, 2499}, {0, 0}}, api.OK},
		{spans{{0, 0}, {-3094, -14}, {0, 0}}, spans{{0, 0}, {-3094, -14}, {0, 0}}, api.OK},
		{spans{{0, 0}, {-3561, 944}, {0, 1906}}, spans{{0, 0}, {-3561, 944}, {0, 0}}, api.OK},
		{spans{{0, 0}, {0, 1244}, {-1600, 662}}, spans{{0, 0}, {0, 1244}, {0, 0}}, api.OK},
		{spans{{0, 0}, {-3283, 0}, {-1225, 0}}, spans{{0, 0}, {-3283, 0}, {0, 0}}, api.OK},
		{spans{{587, 3702}, {757, 757}, {2201, 2201}}, spans{{2907, 2908}, {757, 757}, {2201, 2201}}, api.OK},
		{spans{{415, 2636}, {-1694, -1694}, {-1777, -1777}}, spans{{1048, 1049}, {-1694, -1694}, {-1777, -1777}}, api.OK},
		{spans{{2285, 2564}, {0, 0}, {-3981, 0}}, spans{{2285, 2564}, {0, 0}, {0, 0}}, api.OK},
		{spans{{1067, 3671}, {2476, 3603}, {1168, 3612}}, spans{{1067, 1459}, {2476, 3386}, {2641, 3612}}, api.OK},
		{spans{{2257, 3024}, {-3078, -1497}, {-3457, -1482}}, spans{{2257, 2310}, {-1532, -1497}, {-3457, -3378}}, api.OK},
		{spans{{947, 1736}, {-725, 3361}, {-1576, -1058}}, spans{{947, 1736}, {-725, -609}, {-1259, -1058}}, api.OK},
		{spans{{3595, 3922}, {0, 587}, {2287, 2287}}, spans{{3595, 3922}, {583, 587}, {2287, 2287}}, api.OK},
		{spans{{1797, 3489}, {-991, 0}, {-1262, -1262}}, spans{{1797, 3489}, {-703, -361}, {-1262, -1262}}, api.OK},
		{spans{{-3112, -490}, {3352, 3352}, {-3964, -567}}, spans{{-1183, -490}, {3352, 3352}, {-3964, -1642}}, api.OK},
		{spans{{-3871, -460}, {-1633, -1633}, {105, 3283}}, spans{{-2011, -460}, {-1633, -1633}, {751, 3283}}, api.OK},
		{spans{{-2767, -623}, {0, 0}, {0, 790}}, spans{{-2767, -623}, {0, 0}, {0, 0}}, api.OK},
		{spans{{-2459, -270}, {1773, 3506}, {-605, 2940}}, spans{{-342, -270}, {1773, 2241}, {-605, -478}}, api.OK},
		{spans{{-1352, -837}, {-3673, -2743}, {2469, 2469}}, spans{{-901, -837}, {-2950, -2743}, {2469, 2469}}, api.OK},
		{spans{{-3513, -3440}, {-2291, 477}, {0, 0}}, spans{{-3513, -3440}, {0, 0}, {0, 0}}, api.OK},
		{spans{{-1375, -1342}, {0, 593}, {-336, -336}}, spans{{-1375, -1342}, {244, 251}, {-336, -336}}, api.OK},
		{spans{{-1864, -1381}, {-874, 0}, {696, 2534}}, spans{{-1864, -1381}, {-874, -373}, {696, 1630}}, api.OK},
		{spans{{-2895, 195}, {3576, 3576}, {0, 2444}}, spans{{0, 195}, {3576, 3576}, {0, 698}}, api.OK},
		{spans{{-2147, 3617}, {-3630, -3630}, {0, 0}}, spans{{0, 0}, {-3630, -3630}, {0, 0}}, api.OK},
		{spans{{-1409, 1546}, {0, 0}, {-3738, 0}}, spans{{-1409, 1546}, {0, 0}, {0, 0}}, api.OK},
		{spans{{-2268, 1114}, {178, 3166}, {2653, 2653}}, spans{{837, 1114}, {2381, 3166}, {2653, 2653}}, api.OK},
		{spans{{-3957, 26}, {-3378, -666}, {-2420, 2515}}, spans{{-3777, 26}, {-3378, -666}, {-88, 2515}}, api.OK},
		{spans{{-1473, 2197}, {-1433, 139}, {-1505, -1505}}, spans{{-1473, 2197}, {-1433, 139}, {-1505, -1505}}, api.OK},
		{spans{{-2638, 2943}, {0, 853}, {-2815, -986}}, spans{{-2638, 2943}, {0, 853}, {-2251, -986}}, api.OK},
		{spans{{-530, 2719}, {-2386, 0}, {662, 3317}}, spans{{-530, 2719}, {-2386, 0}, {662, 1265}}, api.OK},
		{spans{{0, 3748}, {2533, 2533}, {-1470, 0}}, spans{{0, 0}, {2533, 2533}, {0, 0}}, api.OK},
		{spans{{0, 2763}, {-140, -140}, {0, 0}}, spans{{0, 0}, {-140, -140}, {0, 0}}, api.OK},
		{spans{{0, 890}, {0, 0}, {0, 3276}}, spans{{0, 890}, {0, 0}, {0, 0}}, api.OK},
		{spans{{0, 849}, {646, 1799}, {1417, 2123}}, spans{{787, 849}, {1669, 1799}, {1417, 1528}}, api.OK},
		{spans{{0, 3066}, {-656, -520}, {-1510, 128}}, spans{{0, 2904}, {-656, -520}, {-1510, 0}}, api.OK},
		{spans{{0, 3380}, {-3792, 3788}, {1218, 1218}}, spans{{0, 3380}, {-3792, 3788}, {1218, 1218}}, api.OK},
		{spans{{0, 2231}, {0, 1530}, {1936, 3531}}, spans{{0, 2231}, {0, 1530}, {1936, 3414}}, api.OK},
		{spans{{0, 1542}, {-2313, 0}, {-1020, -1020}}, spans{{0, 1542}, {-2313, 0}, {-1020, -1020}}, api.OK},
		{spans{{-3965, 0}, {659, 659}, {-2974, -1489}}, spans{{-3965, -2259}, {659, 659}, {-2613, -1489}}, api.OK},
		{spans{{-107, 0}, {-1812, -1812}, {0, 2865}}, spans{{-107, 0}, {-1812, -1812}, {0, 194}}, api.OK},
		{spans{{-1762, 0}, {0, 0}, {-2654, 2051}}, spans{{-1762, 0}, {0, 0}, {0, 0}}, api.OK},
		{spans{{-1251, 0}, {447, 1941}, {-3763, -783}}, spans{{-1251, -403}, {625, 1941}, {-2429, -783}}, api.OK},
		{spans{{-1735, 0}, {-1361, -804}, {2185, 2185}}, spans{{-1735, -1605}, {-1361, -1259}, {2185, 2185}}, api.OK},
		{spans{{-735, 0}, {-1258, 1918}, {-2338, 0}}, spans{{-735, 0}, {-1258, 1918}, {-1410, 0}}, api.OK},
		{spans{{-3485, 0}, {0, 2250}, {0, 0}}, spans{{-3485, 0}, {0, 2250}, {0, 0}}, api.OK},
		{spans{{-1185, 0}, {-1672, 0}, {428, 2621}}, spans{{-1185, 0}, {-1672, 0}, {428, 1982}}, api.OK},
	}
}

func TestSum(t *testing.T) { checkRows(t, sum, sumKinds()) }

func TestTimes(t *testing.T) { checkRows(t, times, timesKinds()) }

// kind of a span: of one number or of several, and where 0 is.
func kind(s [2]int) string {
	switch {
	case s == [2]int{}:
		return "0"
	case s[0] == s[1] && s[0] > 0:
		return "one above 0"
	case s[0] == s[1]:
		return "one below 0"
	case s[0] > 0:
		return "above 0"
	case s[1] < 0:
		return "below 0"
	case s[0] == 0:
		return "from 0 on"
	case s[1] == 0:
		return "up to 0"
	}
	return "across 0"
}

// TestKinds sees that the rows above have each kind of x with each kind of y, and each kind of z.
func TestKinds(t *testing.T) {
	for _, rows := range [][]row{sumKinds(), timesKinds()} {
		pairs, thirds := map[[2]string]int{}, map[string]int{}
		for _, r := range rows {
			pairs[[2]string{kind(r.given[0]), kind(r.given[1])}]++
			thirds[kind(r.given[2])]++
		}
		if len(pairs) != 64 || len(thirds) != 8 {
			t.Errorf("there are %d kinds of x and y, and %d of z", len(pairs), len(thirds))
		}
	}
}

// narrowed names those of x, y and z that are not as they were.
func (r row) narrowed() string {
	names := ""
	for i, name := range []string{"x", "y", "z"} {
		if r.given[i] != r.want[i] {
			names += name
		}
	}
	return names
}

// whichRow is a row, and which of its spans are narrowed.
type whichRow struct {
	row
	which string
}

func checkWhich(t *testing.T, w way, rows []whichRow) {
	t.Helper()
	found := map[string]int{}
	for _, r := range rows {
		checkRow(t, w, r.row)
		if r.narrowed() != r.which {
			t.Errorf("%s(%v) narrows %q, want %q", w.name, r.given, r.narrowed(), r.which)
		}
		found[r.which]++
	}
	if len(found) != 8 {
		t.Errorf("%s: the rows narrow %v, want all that may be", w.name, found)
	}
}

// TestSumWhich asks where nothing is narrowed, one span alone, two of them, and all three.
func TestSumWhich(t *testing.T) {
	checkWhich(t, sum, []whichRow{
		{row{spans{{-2696, 863}, {-3703, -163}, {-3035, -2632}}, spans{{-2696, 863}, {-3703, -163}, {-3035, -2632}}, api.OK}, ""},
		{row{spans{{0, 1559}, {-1388, 0}, {0, 645}}, spans{{0, 1559}, {-1388, 0}, {0, 645}}, api.OK}, ""},
		{row{spans{{1961, 3051}, {-2161, 1063}, {0, 3372}}, spans{{1961, 3051}, {-2161, 1063}, {0, 3372}}, api.OK}, ""},
		{row{spans{{0, 3894}, {-3844, -702}, {-2241, 2803}}, spans{{0, 3894}, {-3844, -702}, {-2241, 2803}}, api.OK}, ""},
		{row{spans{{-68, 3795}, {-960, -960}, {0, 109}}, spans{{960, 1069}, {-960, -960}, {0, 109}}, api.OK}, "x"},
		{row{spans{{-3721, -443}, {2956, 3351}, {-385, 0}}, spans{{-3721, -2956}, {2956, 3351}, {-385, 0}}, api.OK}, "x"},
		{row{spans{{-2951, 554}, {0, 0}, {-1776, 0}}, spans{{-1776, 0}, {0, 0}, {-1776, 0}}, api.OK}, "x"},
		{row{spans{{476, 3411}, {-346, -346}, {767, 767}}, spans{{1113, 1113}, {-346, -346}, {767, 767}}, api.OK}, "x"},
		{row{spans{{0, 0}, {-3634, 0}, {-171, -171}}, spans{{0, 0}, {-171, -171}, {-171, -171}}, api.OK}, "y"},
		{row{spans{{-2764, 0}, {0, 3294}, {0, 0}}, spans{{-2764, 0}, {0, 2764}, {0, 0}}, api.OK}, "y"},
		{row{spans{{-3608, -2714}, {0, 3439}, {-1955, -1955}}, spans{{-3608, -2714}, {759, 1653}, {-1955, -1955}}, api.OK}, "y"},
		{row{spans{{-1113, -1113}, {1371, 2651}, {653, 653}}, spans{{-1113, -1113}, {1766, 1766}, {653, 653}}, api.OK}, "y"},
		{row{spans{{0, 1318}, {-3267, -3267}, {-3453, -1363}}, spans{{0, 1318}, {-3267, -3267}, {-3267, -1949}}, api.OK}, "z"},
		{row{spans{{3735, 3735}, {-1866, -1515}, {0, 2504}}, spans{{3735, 3735}, {-1866, -1515}, {1869, 2220}}, api.OK}, "z"},
		{row{spans{{0, 1021}, {0, 2666}, {-624, 3803}}, spans{{0, 1021}, {0, 2666}, {0, 3687}}, api.OK}, "z"},
		{row{spans{{-817, -817}, {12, 62}, {-3312, 1146}}, spans{{-817, -817}, {12, 62}, {-805, -755}}, api.OK}, "z"},
		{row{spans{{610, 2271}, {-2165, 3402}, {0, 0}}, spans{{610, 2165}, {-2165, -610}, {0, 0}}, api.OK}, "xy"},
		{row{spans{{-1046, 1442}, {-304, 0}, {-1269, -1102}}, spans{{-1046, -798}, {-304, -56}, {-1269, -1102}}, api.OK}, "xy"},
		{row{spans{{-3912, 0}, {1492, 2777}, {2300, 2300}}, spans{{-477, 0}, {2300, 2777}, {2300, 2300}}, api.OK}, "xy"},
		{row{spans{{-3659, -715}, {-3340, 0}, {-3530, -3250}}, spans{{-3530, -715}, {-2815, 0}, {-3530, -3250}}, api.OK}, "xy"},
		{row{spans{{0, 2399}, {-1310, -1310}, {0, 1208}}, spans{{1310, 2399}, {-1310, -1310}, {0, 1089}}, api.OK}, "xz"},
		{row{spans{{-3586, 0}, {2141, 2441}, {-2237, 0}}, spans{{-3586, -2141}, {2141, 2441}, {-1445, 0}}, api.OK}, "xz"},
		{row{spans{{-3547, -935}, {1410, 1410}, {-1885, 3870}}, spans{{-3295, -935}, {1410, 1410}, {-1885, 475}}, api.OK}, "xz"},
		{row{spans{{0, 3063}, {0, 2323}, {-894, 2689}}, spans{{0, 2689}, {0, 2323}, {0, 2689}}, api.OK}, "xz"},
		{row{spans{{3887, 3887}, {-1333, 0}, {1667, 2792}}, spans{{3887, 3887}, {-1333, -1095}, {2554, 2792}}, api.OK}, "yz"},
		{row{spans{{1575, 1575}, {-3943, 0}, {0, 2210}}, spans{{1575, 1575}, {-1575, 0}, {0, 1575}}, api.OK}, "yz"},
		{row{spans{{-1868, -1868}, {-3812, 0}, {-3472, 0}}, spans{{-1868, -1868}, {-1604, 0}, {-3472, -1868}}, api.OK}, "yz"},
		{row{spans{{0, 2516}, {-2917, 734}, {0, 3317}}, spans{{0, 2516}, {-2516, 734}, {0, 3250}}, api.OK}, "yz"},
		{row{spans{{521, 2540}, {-1970, 0}, {852, 2893}}, spans{{852, 2540}, {-1688, 0}, {852, 2540}}, api.OK}, "xyz"},
		{row{spans{{-3072, -782}, {0, 2867}, {0, 3917}}, spans{{-2867, -782}, {782, 2867}, {0, 2085}}, api.OK}, "xyz"},
		{row{spans{{-2829, 785}, {-3389, -174}, {0, 1027}}, spans{{174, 785}, {-785, -174}, {0, 611}}, api.OK}, "xyz"},
		{row{spans{{-3250, -1441}, {-3626, -563}, {-3414, -1761}}, spans{{-2851, -1441}, {-1973, -563}, {-3414, -2004}}, api.OK}, "xyz"},
	})
}

// TestTimesWhich likewise.
func TestTimesWhich(t *testing.T) {
	checkWhich(t, times, []whichRow{
		{row{spans{{-910, 1221}, {0, 1151}, {0, 0}}, spans{{-910, 1221}, {0, 1151}, {0, 0}}, api.OK}, ""},
		{row{spans{{-3194, 0}, {0, 1746}, {-2684, -2684}}, spans{{-3194, 0}, {0, 1746}, {-2684, -2684}}, api.OK}, ""},
		{row{spans{{-2991, 2615}, {-1697, 1763}, {394, 2295}}, spans{{-2991, 2615}, {-1697, 1763}, {394, 2295}}, api.OK}, ""},
		{row{spans{{157, 2335}, {0, 0}, {0, 0}}, spans{{157, 2335}, {0, 0}, {0, 0}}, api.OK}, ""},
		{row{spans{{-1213, 0}, {1595, 3367}, {-529, 0}}, spans{{-332, 0}, {1595, 3367}, {-529, 0}}, api.OK}, "x"},
		{row{spans{{-196, 3849}, {-2129, -2129}, {-1910, 0}}, spans{{0, 898}, {-2129, -2129}, {-1910, 0}}, api.OK}, "x"},
		{row{spans{{-640, 0}, {-3413, -1803}, {702, 702}}, spans{{-390, -205}, {-3413, -1803}, {702, 702}}, api.OK}, "x"},
		{row{spans{{0, 733}, {-3491, -3491}, {-1197, -1197}}, spans{{342, 343}, {-3491, -3491}, {-1197, -1197}}, api.OK}, "x"},
		{row{spans{{3470, 3974}, {-358, 0}, {0, 0}}, spans{{3470, 3974}, {0, 0}, {0, 0}}, api.OK}, "y"},
		{row{spans{{-2419, -2419}, {-2595, 426}, {0, 3916}}, spans{{-2419, -2419}, {-1619, 0}, {0, 3916}}, api.OK}, "y"},
		{row{spans{{1133, 2780}, {-524, 2991}, {-1256, -617}}, spans{{1133, 2780}, {-524, -221}, {-1256, -617}}, api.OK}, "y"},
		{row{spans{{-1329, -139}, {-1971, 2080}, {-2021, -2021}}, spans{{-1329, -139}, {1520, 2080}, {-2021, -2021}}, api.OK}, "y"},
		{row{spans{{0, 0}, {-3337, -3337}, {0, 2084}}, spans{{0, 0}, {-3337, -3337}, {0, 0}}, api.OK}, "z"},
		{row{spans{{0, 0}, {-641, 2823}, {-180, 0}}, spans{{0, 0}, {-641, 2823}, {0, 0}}, api.OK}, "z"},
		{row{spans{{-2250, -2032}, {0, 0}, {-2137, 0}}, spans{{-2250, -2032}, {0, 0}, {0, 0}}, api.OK}, "z"},
		{row{spans{{-1466, 0}, {-1708, 1163}, {-3488, -901}}, spans{{-1466, 0}, {-1708, 1163}, {-1705, -901}}, api.OK}, "z"},
		{row{spans{{-2157, -899}, {521, 1537}, {-488, -488}}, spans{{-937, -899}, {521, 543}, {-488, -488}}, api.OK}, "xy"},
		{row{spans{{-2200, -936}, {-1625, -340}, {3529, 3529}}, spans{{-2200, -2171}, {-1625, -1604}, {3529, 3529}}, api.OK}, "xy"},
		{row{spans{{0, 755}, {771, 3628}, {1113, 1113}}, spans{{306, 755}, {1474, 3628}, {1113, 1113}}, api.OK}, "xy"},
		{row{spans{{-1785, 2285}, {-2174, -62}, {1144, 3159}}, spans{{-1785, -526}, {-2174, -640}, {1144, 3159}}, api.OK}, "xy"},
		{row{spans{{-1590, 1168}, {-317, -317}, {108, 587}}, spans{{-1590, -340}, {-317, -317}, {108, 505}}, api.OK}, "xz"},
		{row{spans{{0, 1256}, {2768, 3515}, {-468, 1371}}, spans{{0, 496}, {2768, 3515}, {0, 1371}}, api.OK}, "xz"},
		{row{spans{{0, 3594}, {-3781, -3781}, {0, 242}}, spans{{0, 0}, {-3781, -3781}, {0, 0}}, api.OK}, "xz"},
		{row{spans{{1646, 3992}, {856, 856}, {-3194, 1429}}, spans{{1646, 1670}, {856, 856}, {1408, 1429}}, api.OK}, "xz"},
		{row{spans{{-1176, -1176}, {-252, 1688}, {-2386, -1314}}, spans{{-1176, -1176}, {1117, 1688}, {-1986, -1314}}, api.OK}, "yz"},
		{row{spans{{-3665, -2298}, {-2308, 0}, {-3593, 191}}, spans{{-3665, -2298}, {-84, 0}, {0, 191}}, api.OK}, "yz"},
		{row{spans{{1753, 1753}, {0, 1050}, {-2387, 0}}, spans{{1753, 1753}, {0, 0}, {0, 0}}, api.OK}, "yz"},
		{row{spans{{-2026, -1050}, {-458, 1803}, {249, 2504}}, spans{{-2026, -1050}, {-458, -122}, {249, 928}}, api.OK}, "yz"},
		{row{spans{{-2292, -472}, {-1015, -130}, {1251, 2681}}, spans{{-2292, -1232}, {-1015, -545}, {1251, 2327}}, api.OK}, "xyz"},
		{row{spans{{-2290, -739}, {2055, 3952}, {-2721, -44}}, spans{{-1325, -739}, {2055, 3683}, {-2721, -1518}}, api.OK}, "xyz"},
		{row{spans{{659, 3563}, {-1886, -733}, {-931, 2007}}, spans{{659, 1271}, {-1413, -733}, {-931, -483}}, api.OK}, "xyz"},
		{row{spans{{-850, 2617}, {113, 1140}, {453, 3152}}, spans{{397, 2617}, {173, 1140}, {453, 2984}}, api.OK}, "xyz"},
	})
}

// floor is n by d, rounded down; d is not 0.
func floor(n, d int) int {
	if d < 0 {
		n, d = -n, -d
	}
	f := n / d
	for f*d > n {
		f--
	}
	return f
}

// around gives the least span that has all of these, each one so many by so many.
func around(all ...[2]int) ([2]int, api.Errno) {
	s := [2]int{math.MaxInt, math.MinInt}
	for _, f := range all {
		s[0] = min(s[0], floor(f[0], f[1]))
		s[1] = max(s[1], -floor(-f[0], f[1]))
	}
	for _, end := range s {
		if end > top || end < -top {
			return [2]int{}, api.ErrFull
		}
	}
	return s, api.OK
}

func added(a, b [2]int) ([2]int, api.Errno) {
	return around([2]int{a[0] + b[0], 1}, [2]int{a[1] + b[1], 1})
}

func less(a, b [2]int) ([2]int, api.Errno) {
	return around([2]int{a[0] - b[1], 1}, [2]int{a[1] - b[0], 1})
}

func timesEach(a, b [2]int) ([2]int, api.Errno) {
	return around([2]int{a[0] * b[0], 1000}, [2]int{a[0] * b[1], 1000}, [2]int{a[1] * b[0], 1000}, [2]int{a[1] * b[1], 1000})
}

func by(a, b [2]int) ([2]int, api.Errno) {
	return around([2]int{a[0] * 1000, b[0]}, [2]int{a[0] * 1000, b[1]}, [2]int{a[1] * 1000, b[0]}, [2]int{a[1] * 1000, b[1]})
}

func always([2]int) bool { return true }

func without0(b [2]int) bool { return b[0] > 0 || b[1] < 0 }

// mistake is something that the chapter does not say.
type mistake int

const (
	noMistake mistake = iota
	oldZForX
	oldZForY
	oldXForY
	yFirst
	twice
)

// meant gives what the chapter says of three spans, or what it would say with a mistake, and at which of them an error is told; of a wrong span that is nowhere.
func (w way) meant(s spans, m mistake) (r row, at string) {
	r = row{given: s}
	if r.told = wrongOf(s); r.told != api.OK {
		return r, ""
	}
	switch m {
	case yFirst:
		r, at = w.meant(spans{s[1], s[0], s[2]}, noMistake)
		return row{s, spans{r.want[1], r.want[0], r.want[2]}, r.told}, at
	case twice:
		if r, at = w.meant(s, noMistake); r.told != api.OK {
			return r, at
		}
		r, at = w.meant(r.want, noMistake)
		return row{s, r.want, r.told}, at
	}
	now := s
	if now[2], r.told = meetOf(s[2], w.make, s[0], s[1]); r.told != api.OK {
		return r, "z"
	}
	if z := oldOr(m == oldZForX, s, now)[2]; w.asked(s[1]) {
		if now[0], r.told = meetOf(s[0], w.undo, z, s[1]); r.told != api.OK {
			return r, "x"
		}
	}
	if x := oldOr(m == oldXForY, s, now)[0]; w.asked(x) {
		if now[1], r.told = meetOf(s[1], w.undo, oldOr(m == oldZForY, s, now)[2], x); r.told != api.OK {
			return r, "y"
		}
	}
	r.want = now
	return r, ""
}

func oldOr(old bool, before, now spans) spans {
	if old {
		return before
	}
	return now
}

// meetOf gives what of a span is in what do makes of a and b, too.
func meetOf(of [2]int, do func(a, b [2]int) ([2]int, api.Errno), a, b [2]int) ([2]int, api.Errno) {
	made, told := do(a, b)
	if told != api.OK {
		return [2]int{}, told
	}
	if made[1] < of[0] || of[1] < made[0] {
		return [2]int{}, api.ErrNone
	}
	return [2]int{max(of[0], made[0]), min(of[1], made[1])}, api.OK
}

// wrongOf tells what is wrong with the first span that has a fault.
func wrongOf(s spans) api.Errno {
	for _, ends := range s {
		for _, end := range ends {
			if end > top || end < -top {
				return api.ErrRange
			}
		}
		if ends[1] < ends[0] {
			return api.ErrShape
		}
	}
	return api.OK
}

// newRow is a row at which a mistake would be seen, and which.
type newRow struct {
	mistake
	row
}

func checkNew(t *testing.T, w way, rows []newRow) {
	t.Helper()
	for _, r := range rows {
		checkRow(t, w, r.row)
		if other, _ := w.meant(r.given, r.mistake); other == r.row {
			t.Errorf("%s(%v): the mistake %d would not be seen", w.name, r.given, r.mistake)
		}
	}
}

// TestSumNew sees that x is narrowed by the new z, and y by the new z and the new x. Of Sum the old ones would tell no other spans, as what they have besides goes with nothing; but they are often beyond what may be where the new ones are not.
func TestSumNew(t *testing.T) {
	checkNew(t, sum, []newRow{
		// By the old z x would tell something else.
		{oldZForX, row{spans{{1, 1}, {-2, 0}, {1, top}}, spans{{1, 1}, {0, 0}, {1, 1}}, api.OK}},
		{oldZForX, row{spans{{0, 3}, {1, 5}, {-top, 1}}, spans{{0, 0}, {1, 1}, {1, 1}}, api.OK}},
		{oldZForX, row{spans{{5, 5}, {7, 9}, {-top, top}}, spans{{5, 5}, {7, 9}, {12, 14}}, api.OK}},
		{oldZForX, row{spans{{-31, -7}, {-400, 4500}, {-top, -1}}, spans{{-31, -7}, {-400, 30}, {-431, -1}}, api.OK}},
		{oldZForX, row{spans{{-2500, 2000}, {-3, 3}, {-1, top}}, spans{{-4, 2000}, {-3, 3}, {-1, 2003}}, api.OK}},
		{oldZForX, row{spans{{0, 2000}, {-1, 60}, {-top, top}}, spans{{0, 2000}, {-1, 60}, {-1, 2060}}, api.OK}},
		// By the old z y would.
		{oldZForY, row{spans{{-2, 1}, {2, 2}, {1, top}}, spans{{-1, 1}, {2, 2}, {1, 3}}, api.OK}},
		{oldZForY, row{spans{{-1, 3}, {1, 7}, {0, top}}, spans{{-1, 3}, {1, 7}, {0, 10}}, api.OK}},
		{oldZForY, row{spans{{-2000, half}, {1, 5}, {-top, 2500}}, spans{{-2000, 2499}, {1, 5}, {-1999, 2500}}, api.OK}},
		{oldZForY, row{spans{{-1, -1}, {1000, 2500}, {1, top}}, spans{{-1, -1}, {1000, 2500}, {999, 2499}}, api.OK}},
		{oldZForY, row{spans{{-7, 1}, {-1, 0}, {-top, half}}, spans{{-7, 1}, {-1, 0}, {-8, 1}}, api.OK}},
		{oldZForY, row{spans{{4, 4}, {0, 0}, {-top, top}}, spans{{4, 4}, {0, 0}, {4, 4}}, api.OK}},
		// By the old x y would.
		{oldXForY, row{spans{{-top, 0}, {0, 9}, {2, 7}}, spans{{-7, 0}, {2, 9}, {2, 7}}, api.OK}},
		{oldXForY, row{spans{{-top, 1}, {1, 5}, {5, 9}}, spans{{0, 1}, {4, 5}, {5, 6}}, api.OK}},
		{oldXForY, row{spans{{-2000, top}, {-1, -1}, {-7000, -1000}}, spans{{-2000, -999}, {-1, -1}, {-2001, -1000}}, api.OK}},
		{oldXForY, row{spans{{-top, half}, {0, 1000}, {-7000, 1}}, spans{{-8000, 1}, {0, 1000}, {-7000, 1}}, api.OK}},
		{oldXForY, row{spans{{0, top}, {-2500, -1000}, {-400, 600}}, spans{{600, 3100}, {-2500, -1000}, {-400, 600}}, api.OK}},
		{oldXForY, row{spans{{-top, top}, {0, 0}, {3, 5}}, spans{{3, 5}, {0, 0}, {3, 5}}, api.OK}},
		// With y ahead of x they would.
		{yFirst, row{spans{{2, 3}, {-top, 1}, {0, 3}}, none, api.ErrFull}},
		{yFirst, row{spans{{0, 7}, {-top, 0}, {3, 3}}, none, api.ErrFull}},
		{yFirst, row{spans{{-half, -2000}, {0, top}, {-400, 4500}}, none, api.ErrFull}},
		{yFirst, row{spans{{-2500, -1000}, {-1000, top}, {-7000, 2000}}, none, api.ErrFull}},
		{yFirst, row{spans{{-top, 1}, {5, 9}, {7, 7}}, spans{{-2, 1}, {6, 9}, {7, 7}}, api.OK}},
		{yFirst, row{spans{{999, top}, {-half, -1}, {-3, 3}}, spans{{999, half + 3}, {-half, -996}, {-3, 3}}, api.OK}},
		{yFirst, row{spans{{-half, half}, {-2000, 2500}, {half, top}}, spans{{499997500, half}, {0, 2500}, {half, 500002500}}, api.OK}},
	})
}

// TestTimesNew likewise; and that nothing is narrowed a second time. The old x may have 0 in it where the new one has not, so it tells other spans, too.
func TestTimesNew(t *testing.T) {
	checkNew(t, times, []newRow{
		// By the old z x would tell something else.
		{oldZForX, row{spans{{1, 7}, {1, 1}, {0, half}}, spans{{1, 7}, {1, 1}, {0, 1}}, api.OK}},
		{oldZForX, row{spans{{-3, 7}, {9, 60}, {-top, 999}}, spans{{-3, 7}, {9, 60}, {-1, 1}}, api.OK}},
		{oldZForX, row{spans{{-90, -90}, {60, 60}, {-half, 2500}}, spans{{-90, -90}, {60, 60}, {-6, -5}}, api.OK}},
		{oldZForX, row{spans{{-1000, -1}, {5, 37}, {-top, 1000}}, spans{{-1000, -1}, {5, 37}, {-37, 0}}, api.OK}},
		{oldZForX, row{spans{{-1, top}, {2, 3}, {-top, 999}}, spans{{-1, 499500}, {2, 3}, {-1, 999}}, api.OK}},
		{oldZForX, row{spans{{2, 3}, {2, 2}, {1, half}}, none, api.ErrNone}},
		{oldZForX, row{spans{{-90, -31}, {-90, -31}, {-half, 0}}, none, api.ErrNone}},
		{oldZForX, row{spans{{-2, 3}, {1, 3}, {-half, -1}}, none, api.ErrNone}},
		// By the old z y would.
		{oldZForY, row{spans{{1, 2}, {2, 3}, {0, half}}, spans{{1, 2}, {2, 3}, {0, 1}}, api.OK}},
		{oldZForY, row{spans{{7, 7}, {0, 1}, {0, half}}, spans{{7, 7}, {0, 1}, {0, 1}}, api.OK}},
		{oldZForY, row{spans{{-3, -1}, {-2, 3}, {-half, 2500}}, spans{{-3, -1}, {-2, 3}, {-1, 1}}, api.OK}},
		{oldZForY, row{spans{{600, 4500}, {-2500, -1000}, {-top, 2500}}, spans{{600, 4500}, {-2500, -1000}, {-11250, -600}}, api.OK}},
		{oldZForY, row{spans{{-3000, -400}, {-5, 7}, {0, half}}, spans{{-3000, -400}, {-5, 0}, {0, 15}}, api.OK}},
		{oldZForY, row{spans{{3, 7}, {0, 2}, {1, half}}, none, api.ErrNone}},
		{oldZForY, row{spans{{-5, -3}, {0, 1}, {-half, -1}}, none, api.ErrNone}},
		{oldZForY, row{spans{{-1, 1}, {1, 999}, {-half, -1}}, none, api.ErrNone}},
		// By the old x y would.
		{oldXForY, row{spans{{0, 600}, {2, 7}, {2, 3}}, spans{{285, 600}, {3, 7}, {2, 3}}, api.OK}},
		{oldXForY, row{spans{{0, 37}, {5, 37}, {1, 5}}, spans{{27, 37}, {27, 37}, {1, 2}}, api.OK}},
		{oldXForY, row{spans{{-7, 60}, {37, 1000}, {-5, -2}}, spans{{-7, -2}, {285, 1000}, {-5, -2}}, api.OK}},
		{oldXForY, row{spans{{-31, 0}, {1, 1000}, {-7, -1}}, spans{{-31, -1}, {32, 1000}, {-7, -1}}, api.OK}},
		{oldXForY, row{spans{{-2000, 0}, {1, 4500}, {-1000, -1000}}, spans{{-2000, -222}, {500, 4500}, {-1000, -1000}}, api.OK}},
		{oldXForY, row{spans{{-90, 1}, {-1000, -400}, {-1000, -1}}, spans{{1, 1}, {-1000, -1000}, {-1, -1}}, api.OK}},
		{oldXForY, row{spans{{1, half}, {9, 9}, {2500, half}}, spans{{277777, half}, {9, 9}, {2500, 4500000}}, api.OK}},
		{oldXForY, row{spans{{-top, -1}, {-90, -90}, {1000, half}}, spans{{-top, -11111}, {-90, -90}, {1000, 90000000}}, api.OK}},
		{oldXForY, row{spans{{600, 1000}, {-top, -2000}, {-top, -top}}, spans{{1000, 1000}, {-top, -top}, {-top, -top}}, api.OK}},
		{oldXForY, row{spans{{0, top}, {37, 37}, {1, half}}, none, api.ErrFull}},
		{oldXForY, row{spans{{-1000, 1}, {2500, top}, {-top, -half}}, none, api.ErrFull}},
		{oldXForY, row{spans{{-half, 0}, {-1000, -1000}, {1, top}}, none, api.ErrFull}},
		{oldXForY, row{spans{{0, 1}, {1, 999}, {1, 3}}, none, api.ErrNone}},
		{oldXForY, row{spans{{-2, 2}, {-400, -400}, {1, 37}}, none, api.ErrNone}},
		{oldXForY, row{spans{{-3000, 1}, {1000, 2500}, {3, 7}}, none, api.ErrNone}},
		// With y ahead of x they would.
		{yFirst, row{spans{{9, 37}, {0, 37}, {1, 5}}, spans{{9, 37}, {27, 37}, {1, 2}}, api.OK}},
		{yFirst, row{spans{{1, 1000}, {-5, 7}, {-2, -2}}, spans{{1, 1000}, {-5, -2}, {-2, -2}}, api.OK}},
		{yFirst, row{spans{{-7, 9}, {1, 1000}, {1, 1000}}, spans{{1, 9}, {111, 1000}, {1, 9}}, api.OK}},
		{yFirst, row{spans{{5, 5}, {1, half}, {999, half}}, none, api.ErrFull}},
		{yFirst, row{spans{{-half, -2000}, {-1000, -400}, {half, half}}, none, api.ErrFull}},
		{yFirst, row{spans{{0, top}, {37, 37}, {1, half}}, none, api.ErrFull}},
		{yFirst, row{spans{{0, 1}, {1, 600}, {1, 7}}, none, api.ErrNone}},
		{yFirst, row{spans{{-1, 37}, {-2500, -1000}, {3, 3}}, none, api.ErrNone}},
		{yFirst, row{spans{{1, half}, {9, 9}, {2500, half}}, spans{{277777, half}, {9, 9}, {2500, 4500000}}, api.OK}},
		{yFirst, row{spans{{600, 1000}, {-top, top}, {-half, -1}}, spans{{600, 1000}, {-833333334, -1}, {-half, -1}}, api.OK}},
		{yFirst, row{spans{{1, 999}, {0, 1}, {1, 7}}, spans{{1, 999}, {1, 1}, {1, 1}}, api.OK}},
		{yFirst, row{spans{{1000, 2500}, {-1, 1000}, {-3, -3}}, spans{{1000, 2500}, {-1, -1}, {-3, -3}}, api.OK}},
		// All of it once more would.
		{twice, row{spans{{1, 999}, {0, 5}, {1, 3}}, spans{{1, 999}, {1, 5}, {1, 3}}, api.OK}},
		{twice, row{spans{{-90, -1}, {-400, 1000}, {-3, -3}}, spans{{-90, -1}, {33, 1000}, {-3, -3}}, api.OK}},
		{twice, row{spans{{1, 2000}, {-7, 9}, {-3, -3}}, spans{{1, 2000}, {-7, -1}, {-3, -3}}, api.OK}},
		{twice, row{spans{{1, 999}, {-3000, 1000}, {2, 7}}, spans{{1, 999}, {2, 1000}, {2, 7}}, api.OK}},
		{twice, row{spans{{-1000, -1}, {-7, 0}, {1, 7}}, spans{{-1000, -1}, {-7, -1}, {1, 7}}, api.OK}},
		{twice, row{spans{{37, 60}, {0, half}, {1, top}}, spans{{37, 60}, {16, half}, {1, 30000000}}, api.OK}},
		{twice, row{spans{{1000, 1000}, {-top, 2500}, {-half, -1}}, spans{{1000, 1000}, {-half, -1}, {-half, -1}}, api.OK}},
		{twice, row{spans{{1, 600}, {0, 1}, {1, 3}}, spans{{1, 600}, {1, 1}, {1, 1}}, api.OK}},
		{twice, row{spans{{999, 999}, {-1000, 1}, {1, 2}}, spans{{999, 999}, {1, 1}, {1, 1}}, api.OK}},
	})
}

// TestTimesZero asks where 0 is in y, in the new x, in both, and in neither.
func TestTimesZero(t *testing.T) {
	checkRows(t, times, []row{
		// y has 0 within it, at its Lo, at its Hi, or is 0: x stays, also where a part of it goes with nothing of z.
		{spans{{1000, 9000}, {-1000, 3000}, {6000, 7000}}, spans{{1000, 9000}, {666, 3000}, {6000, 7000}}, api.OK},
		{spans{{1000, 9000}, {0, 3000}, {6000, 7000}}, spans{{1000, 9000}, {666, 3000}, {6000, 7000}}, api.OK},
		{spans{{-9000, -1000}, {-3000, 0}, {6000, 7000}}, spans{{-9000, -1000}, {-3000, -666}, {6000, 7000}}, api.OK},
		{spans{{1000, 9000}, {-3000, 0}, {-7000, -6000}}, spans{{1000, 9000}, {-3000, -666}, {-7000, -6000}}, api.OK},
		{spans{{1000, 9000}, {-1, 3000}, {6000, 7000}}, spans{{1000, 9000}, {666, 3000}, {6000, 7000}}, api.OK},
		{spans{{1000, 9000}, {-3000, 1}, {-7000, -6000}}, spans{{1000, 9000}, {-3000, -666}, {-7000, -6000}}, api.OK},
		{spans{{2000, 9000}, {0, 0}, {-5, 5}}, spans{{2000, 9000}, {0, 0}, {0, 0}}, api.OK},
		{spans{{-9000, 2000}, {-1, 1}, {1, 1}}, spans{{-9000, 2000}, {-1, 1}, {1, 1}}, api.OK},
		{spans{{1, 9000}, {0, 1}, {0, 0}}, spans{{1, 9000}, {0, 0}, {0, 0}}, api.OK},
		{spans{{1, 9000}, {-1, 0}, {0, 0}}, spans{{1, 9000}, {0, 0}, {0, 0}}, api.OK},
		// y is just above 0, or just below it: x is narrowed.
		{spans{{1000, 9000}, {1, 3000}, {6000, 7000}}, spans{{2000, 9000}, {666, 3000}, {6000, 7000}}, api.OK},
		{spans{{-9000, -1000}, {-3000, -1}, {6000, 7000}}, spans{{-9000, -2000}, {-3000, -666}, {6000, 7000}}, api.OK},
		{spans{{1000, 9000}, {-3000, -1}, {-7000, -6000}}, spans{{2000, 9000}, {-3000, -666}, {-7000, -6000}}, api.OK},
		// The new x has 0 within it, at its Lo, at its Hi, or is 0: y stays.
		{spans{{-2000, 3000}, {1000, 4000}, {-1000, 2000}}, spans{{-1000, 2000}, {1000, 4000}, {-1000, 2000}}, api.OK},
		{spans{{0, 3000}, {1000, 4000}, {-1000, 2000}}, spans{{0, 2000}, {1000, 4000}, {0, 2000}}, api.OK},
		{spans{{-3000, 0}, {1000, 4000}, {-2000, 1000}}, spans{{-2000, 0}, {1000, 4000}, {-2000, 0}}, api.OK},
		{spans{{-3000, 5000}, {-4000, -1000}, {0, 1000}}, spans{{-1000, 0}, {-4000, -1000}, {0, 1000}}, api.OK},
		{spans{{-3000, 5000}, {-4000, -1000}, {-1000, 0}}, spans{{0, 1000}, {-4000, -1000}, {-1000, 0}}, api.OK},
		{spans{{0, 0}, {1000, 4000}, {-5, 5}}, spans{{0, 0}, {1000, 4000}, {0, 0}}, api.OK},
		{spans{{-3000, 3000}, {1000, 4000}, {0, 0}}, spans{{0, 0}, {1000, 4000}, {0, 0}}, api.OK},
		// Both have 0 in them: z alone is narrowed.
		{spans{{-2000, 3000}, {-1000, 4000}, {5000, 99000}}, spans{{-2000, 3000}, {-1000, 4000}, {5000, 12000}}, api.OK},
		{spans{{0, 3000}, {0, 4000}, {5000, 99000}}, spans{{0, 3000}, {0, 4000}, {5000, 12000}}, api.OK},
		{spans{{-3000, 0}, {-4000, 0}, {-5000, 6000}}, spans{{-3000, 0}, {-4000, 0}, {0, 6000}}, api.OK},
		{spans{{0, 3000}, {-4000, 0}, {-5000, 6000}}, spans{{0, 3000}, {-4000, 0}, {-5000, 0}}, api.OK},
		// x has 0 in it and the new x has not: y is narrowed.
		{spans{{-2000, 3000}, {1000, 4000}, {5000, 6000}}, spans{{1250, 3000}, {1666, 4000}, {5000, 6000}}, api.OK},
		{spans{{0, 3000}, {1000, 4000}, {5000, 6000}}, spans{{1250, 3000}, {1666, 4000}, {5000, 6000}}, api.OK},
		{spans{{-3000, 0}, {1000, 4000}, {-6000, -5000}}, spans{{-3000, -1250}, {1666, 4000}, {-6000, -5000}}, api.OK},
		{spans{{-2000, 3000}, {-4000, -1000}, {-9000, -5000}}, spans{{1250, 3000}, {-4000, -1666}, {-9000, -5000}}, api.OK},
		{spans{{-5000, 3000}, {-4000, -1000}, {9000, top}}, spans{{-5000, -2250}, {-4000, -1800}, {9000, 20000}}, api.OK},
		{spans{{0, 600}, {2, 7}, {2, 3}}, spans{{285, 600}, {3, 7}, {2, 3}}, api.OK},
		{spans{{-5, 9}, {20, 1000}, {1, 2}}, spans{{1, 9}, {111, 1000}, {1, 2}}, api.OK},
		// By rounding alone the new x begins, or ends, at 0: y stays.
		{spans{{-5, 9}, {100, 3000}, {2, 5}}, spans{{0, 9}, {100, 3000}, {2, 5}}, api.OK},
		{spans{{-9, 5}, {100, 3000}, {-5, -2}}, spans{{-9, 0}, {100, 3000}, {-5, -2}}, api.OK},
		{spans{{0, 9}, {600, 9000}, {5, 6}}, spans{{0, 9}, {600, 9000}, {5, 6}}, api.OK},
		// It begins, or ends, just beside it: y is narrowed.
		{spans{{-5, 9}, {100, 3000}, {3, 5}}, spans{{1, 9}, {333, 3000}, {3, 5}}, api.OK},
		{spans{{-9, 5}, {100, 3000}, {-5, -3}}, spans{{-9, -1}, {333, 3000}, {-5, -3}}, api.OK},
		{spans{{0, 9}, {600, 9000}, {9, 9}}, spans{{1, 9}, {1000, 9000}, {9, 9}}, api.OK},
		// Neither has 0 in it.
		{spans{{2000, 3000}, {5000, 7000}, {12000, 18000}}, spans{{2000, 3000}, {5000, 7000}, {12000, 18000}}, api.OK},
		{spans{{2000, 3000}, {-7000, -5000}, {-20000, -17000}}, spans{{2428, 3000}, {-7000, -5666}, {-20000, -17000}}, api.OK},
		{spans{{-3000, -2000}, {5000, 7000}, {-11000, -5000}}, spans{{-2200, -2000}, {5000, 5500}, {-11000, -10000}}, api.OK},
		{spans{{-3000, -2000}, {-7000, -5000}, {16000, 17000}}, spans{{-3000, -2285}, {-7000, -5333}, {16000, 17000}}, api.OK},
		{spans{{1, 9}, {100, 2000}, {5, 6}}, spans{{2, 9}, {555, 2000}, {5, 6}}, api.OK},
	})
}

// placeRow is a row, and at which span its error is told.
type placeRow struct {
	row
	at string
}

func checkPlaces(t *testing.T, w way, rows []placeRow) {
	t.Helper()
	for _, r := range rows {
		checkRow(t, w, r.row)
		if _, at := w.meant(r.given, noMistake); at != r.at {
			t.Errorf("%s(%v): an error at %q, want %q", w.name, r.given, at, r.at)
		}
	}
}

// TestSumNone asks where nothing goes together: of Sum that is seen at z alone, as all that is left of z is the sum of something.
func TestSumNone(t *testing.T) {
	checkPlaces(t, sum, []placeRow{
		// At the Meet with z, which begins above, or ends below, what x and y are together, by one too.
		{row{spans{{1, 3}, {10, 20}, {24, 99}}, none, api.ErrNone}, "z"},
		{row{spans{{1, 3}, {10, 20}, {-99, 10}}, none, api.ErrNone}, "z"},
		{row{spans{{1, 3}, {10, 20}, {24, 24}}, none, api.ErrNone}, "z"},
		{row{spans{{1, 3}, {10, 20}, {10, 10}}, none, api.ErrNone}, "z"},
		{row{spans{{-3, -1}, {-20, -10}, {-10, 0}}, none, api.ErrNone}, "z"},
		{row{spans{{-3, -1}, {-20, -10}, {-99, -24}}, none, api.ErrNone}, "z"},
		{row{spans{{-3, 5}, {-20, 10}, {16, top}}, none, api.ErrNone}, "z"},
		{row{spans{{-3, 5}, {-20, 10}, {-top, -24}}, none, api.ErrNone}, "z"},
		{row{spans{{0, 0}, {0, 0}, {1, top}}, none, api.ErrNone}, "z"},
		{row{spans{{0, 0}, {0, 0}, {-top, -1}}, none, api.ErrNone}, "z"},
		{row{spans{{top, top}, {-top, -top}, {1, 1}}, none, api.ErrNone}, "z"},
		{row{spans{{top, top}, {0, 0}, {-top, top - 1}}, none, api.ErrNone}, "z"},
		{row{spans{{-top, -top}, {0, 0}, {-top + 1, top}}, none, api.ErrNone}, "z"},
		// With one number in both.
		{row{spans{{1, 3}, {10, 20}, {23, 99}}, spans{{3, 3}, {20, 20}, {23, 23}}, api.OK}, ""},
		{row{spans{{1, 3}, {10, 20}, {-99, 11}}, spans{{1, 1}, {10, 10}, {11, 11}}, api.OK}, ""},
		{row{spans{{-3, -1}, {-20, -10}, {-11, 0}}, spans{{-1, -1}, {-10, -10}, {-11, -11}}, api.OK}, ""},
		{row{spans{{-3, -1}, {-20, -10}, {-99, -23}}, spans{{-3, -3}, {-20, -20}, {-23, -23}}, api.OK}, ""},
		{row{spans{{-3, 5}, {-20, 10}, {15, top}}, spans{{5, 5}, {10, 10}, {15, 15}}, api.OK}, ""},
		{row{spans{{-3, 5}, {-20, 10}, {-top, -23}}, spans{{-3, -3}, {-20, -20}, {-23, -23}}, api.OK}, ""},
		{row{spans{{top, top}, {-top, -top}, {0, 0}}, spans{{top, top}, {-top, -top}, {0, 0}}, api.OK}, ""},
		{row{spans{{top, top}, {0, 0}, {0, top}}, spans{{top, top}, {0, 0}, {top, top}}, api.OK}, ""},
		{row{spans{{-top, -top}, {0, 0}, {-top, 0}}, spans{{-top, -top}, {0, 0}, {-top, -top}}, api.OK}, ""},
	})
}

// TestTimesNone likewise: of Times it is seen at x and at y as well, where all that is left of z is there by rounding.
func TestTimesNone(t *testing.T) {
	checkPlaces(t, times, []placeRow{
		// At the Meet with z.
		{row{spans{{2000, 3000}, {5000, 7000}, {21001, top}}, none, api.ErrNone}, "z"},
		{row{spans{{2000, 3000}, {5000, 7000}, {-top, 9999}}, none, api.ErrNone}, "z"},
		{row{spans{{-3000, -2000}, {5000, 7000}, {-9999, top}}, none, api.ErrNone}, "z"},
		{row{spans{{-3000, -2000}, {5000, 7000}, {-top, -21001}}, none, api.ErrNone}, "z"},
		{row{spans{{-2000, 3000}, {-5000, 7000}, {21001, 21001}}, none, api.ErrNone}, "z"},
		{row{spans{{-2000, 3000}, {-5000, 7000}, {-15001, -15001}}, none, api.ErrNone}, "z"},
		{row{spans{{1001, 1001}, {1001, 1001}, {1004, 1004}}, none, api.ErrNone}, "z"},
		{row{spans{{1001, 1001}, {1001, 1001}, {1001, 1001}}, none, api.ErrNone}, "z"},
		{row{spans{{0, 0}, {-top, top}, {1, top}}, none, api.ErrNone}, "z"},
		{row{spans{{-top, top}, {0, 0}, {-top, -1}}, none, api.ErrNone}, "z"},
		{row{spans{{1, 1}, {1, 1}, {2, 2}}, none, api.ErrNone}, "z"},
		{row{spans{{1, 1}, {1, 1}, {-1, -1}}, none, api.ErrNone}, "z"},
		{row{spans{{0, 1}, {1, 1}, {-1, -1}}, none, api.ErrNone}, "z"},
		{row{spans{{top, top}, {1000, 1000}, {-top, top - 1}}, none, api.ErrNone}, "z"},
		// At that with x: z has what is there by rounding alone.
		{row{spans{{1, 1}, {1, 1}, {1, 1}}, none, api.ErrNone}, "x"},
		{row{spans{{1, 1}, {-1, -1}, {0, 0}}, none, api.ErrNone}, "x"},
		{row{spans{{0, 1}, {1, 1}, {1, 1}}, none, api.ErrNone}, "x"},
		{row{spans{{-1, 0}, {1, 1}, {-1, -1}}, none, api.ErrNone}, "x"},
		{row{spans{{-90, -31}, {-90, -31}, {0, 0}}, none, api.ErrNone}, "x"},
		{row{spans{{741, 741}, {892, 892}, {660, 660}}, none, api.ErrNone}, "x"},
		{row{spans{{-741, -741}, {892, 892}, {-660, -660}}, none, api.ErrNone}, "x"},
		{row{spans{{-2, 3}, {1, 3}, {-1, -1}}, none, api.ErrNone}, "x"},
		// At that with y: 0 is in y, 0 is in x and not in the new x, and 0 is in neither.
		{row{spans{{1, 1}, {0, 1}, {1, 1}}, none, api.ErrNone}, "y"},
		{row{spans{{-1, -1}, {-1, 0}, {1, 1}}, none, api.ErrNone}, "y"},
		{row{spans{{1, 2}, {-1, 0}, {-1, -1}}, none, api.ErrNone}, "y"},
		{row{spans{{3, 7}, {0, 2}, {1, 1}}, none, api.ErrNone}, "y"},
		{row{spans{{-5, -3}, {0, 1}, {-1, -1}}, none, api.ErrNone}, "y"},
		{row{spans{{1, 2}, {-3, 7}, {1, 1}}, none, api.ErrNone}, "y"},
		{row{spans{{0, 1}, {1, 999}, {1, 1}}, none, api.ErrNone}, "y"},
		{row{spans{{-1, 1}, {1, 996}, {1, 1}}, none, api.ErrNone}, "y"},
		{row{spans{{-50, 37}, {2, 59}, {-9, -3}}, none, api.ErrNone}, "y"},
		{row{spans{{-3000, 1}, {1000, 2500}, {3, 7}}, none, api.ErrNone}, "y"},
		{row{spans{{-1, -1}, {1, 999}, {-1, -1}}, none, api.ErrNone}, "y"},
		{row{spans{{-2, -2}, {7, 997}, {-2, -2}}, none, api.ErrNone}, "y"},
		{row{spans{{3, 3}, {1, 999}, {3, 4}}, none, api.ErrNone}, "y"},
		// With something in all.
		{row{spans{{2000, 3000}, {5000, 7000}, {21000, top}}, spans{{3000, 3000}, {7000, 7000}, {21000, 21000}}, api.OK}, ""},
		{row{spans{{2000, 3000}, {5000, 7000}, {-top, 10000}}, spans{{2000, 2000}, {5000, 5000}, {10000, 10000}}, api.OK}, ""},
		{row{spans{{-2000, 3000}, {-5000, 7000}, {21000, 21000}}, spans{{-2000, 3000}, {-5000, 7000}, {21000, 21000}}, api.OK}, ""},
		{row{spans{{-3000, -2000}, {5000, 7000}, {-top, -21000}}, spans{{-3000, -3000}, {7000, 7000}, {-21000, -21000}}, api.OK}, ""},
		{row{spans{{1001, 1001}, {1001, 1001}, {1002, 1003}}, spans{{1001, 1001}, {1001, 1001}, {1002, 1003}}, api.OK}, ""},
		{row{spans{{0, 0}, {-top, top}, {0, top}}, spans{{0, 0}, {-top, top}, {0, 0}}, api.OK}, ""},
		{row{spans{{1, 1}, {1, 1}, {0, 1}}, spans{{1, 1}, {1, 1}, {0, 1}}, api.OK}, ""},
		{row{spans{{1, 1000}, {1, 1}, {1, 1}}, spans{{1000, 1000}, {1, 1}, {1, 1}}, api.OK}, ""},
		{row{spans{{1, 1}, {0, 1000}, {1, 1}}, spans{{1, 1}, {1000, 1000}, {1, 1}}, api.OK}, ""},
		{row{spans{{0, 1}, {1, 1000}, {1, 1}}, spans{{1, 1}, {1000, 1000}, {1, 1}}, api.OK}, ""},
		{row{spans{{-1, -1}, {1, 1000}, {-1, -1}}, spans{{-1, -1}, {1000, 1000}, {-1, -1}}, api.OK}, ""},
	})
}

// TestSumFull asks sums and differences that are just what may be, and such as are just beyond it.
func TestSumFull(t *testing.T) {
	checkPlaces(t, sum, []placeRow{
		// x Add y is just what may be.
		{row{spans{{top - 1, top - 1}, {0, 1}, {top, top}}, spans{{top - 1, top - 1}, {1, 1}, {top, top}}, api.OK}, ""},
		{row{spans{{-top + 1, 0}, {-1, 0}, {-top, -top}}, spans{{-top + 1, -top + 1}, {-1, -1}, {-top, -top}}, api.OK}, ""},
		{row{spans{{half, half}, {half, half}, {top, top}}, spans{{half, half}, {half, half}, {top, top}}, api.OK}, ""},
		{row{spans{{-half, -half}, {-half, -half}, {-top, -top}}, spans{{-half, -half}, {-half, -half}, {-top, -top}}, api.OK}, ""},
		{row{spans{{0, 0}, {0, top}, {5, top}}, spans{{0, 0}, {5, top}, {5, top}}, api.OK}, ""},
		{row{spans{{-top, 0}, {0, 0}, {-top, -5}}, spans{{-top, -5}, {0, 0}, {-top, -5}}, api.OK}, ""},
		// It is one beyond, or more; also where z would be nowhere in it.
		{row{spans{{top, top}, {0, 1}, {top, top}}, none, api.ErrFull}, "z"},
		{row{spans{{-top, 0}, {-1, 0}, {-top, -top}}, none, api.ErrFull}, "z"},
		{row{spans{{half, half}, {half, half + 1}, {top, top}}, none, api.ErrFull}, "z"},
		{row{spans{{-half, -half}, {-half - 1, -half}, {-top, -top}}, none, api.ErrFull}, "z"},
		{row{spans{{-top, top}, {-1, 1}, {0, 0}}, none, api.ErrFull}, "z"},
		{row{spans{{top, top}, {top, top}, {top, top}}, none, api.ErrFull}, "z"},
		{row{spans{{-top, -top}, {-top, -top}, {-top, -top}}, none, api.ErrFull}, "z"},
		{row{spans{{-top, top}, {-top, top}, {-top, top}}, none, api.ErrFull}, "z"},
		{row{spans{{0, 1}, {0, top}, {0, 0}}, none, api.ErrFull}, "z"},
		{row{spans{{-1, 0}, {-top, 0}, {0, 0}}, none, api.ErrFull}, "z"},
		{row{spans{{-top, 0}, {-1, 0}, {5, 5}}, none, api.ErrFull}, "z"},
		{row{spans{{0, top}, {0, 1}, {-5, -5}}, none, api.ErrFull}, "z"},
		{row{spans{{top, top}, {1, 1}, {0, 0}}, none, api.ErrFull}, "z"},
		// z Less y is just what may be.
		{row{spans{{0, 1}, {-top + 1, 0}, {0, 1}}, spans{{0, 1}, {-1, 0}, {0, 1}}, api.OK}, ""},
		{row{spans{{-1, 0}, {0, top - 1}, {-1, 0}}, spans{{-1, 0}, {0, 1}, {-1, 0}}, api.OK}, ""},
		{row{spans{{0, 0}, {-top + 1, 1}, {0, 2}}, spans{{0, 0}, {0, 1}, {0, 1}}, api.OK}, ""},
		{row{spans{{0, 0}, {-top, 0}, {0, 0}}, spans{{0, 0}, {0, 0}, {0, 0}}, api.OK}, ""},
		{row{spans{{2, 2}, {-top + 1, 0}, {1, 1}}, spans{{2, 2}, {-1, -1}, {1, 1}}, api.OK}, ""},
		// It is one beyond, or more.
		{row{spans{{0, 1}, {-top, 0}, {0, 1}}, none, api.ErrFull}, "x"},
		{row{spans{{-1, 0}, {0, top}, {-1, 0}}, none, api.ErrFull}, "x"},
		{row{spans{{0, 1}, {-top + 1, 1}, {0, 2}}, none, api.ErrFull}, "x"},
		{row{spans{{0, 0}, {-1, top}, {-1, 0}}, none, api.ErrFull}, "x"},
		{row{spans{{2, 2}, {-top, 0}, {1, 1}}, none, api.ErrFull}, "x"},
		{row{spans{{0, top}, {-top, 0}, {-top, top}}, none, api.ErrFull}, "x"},
		{row{spans{{-top, 0}, {0, top}, {-1, -1}}, none, api.ErrFull}, "x"},
		{row{spans{{-half, -2000}, {0, top}, {-400, 4500}}, none, api.ErrFull}, "x"},
		// z Less the new x is just what may be.
		{row{spans{{-half, 0}, {0, half}, {-1, half}}, spans{{-half, 0}, {0, half}, {-1, half}}, api.OK}, ""},
		{row{spans{{0, half}, {-half, 0}, {-half, 1}}, spans{{0, half}, {-half, 0}, {-half, 1}}, api.OK}, ""},
		{row{spans{{-top, 0}, {0, 0}, {-top, 0}}, spans{{-top, 0}, {0, 0}, {-top, 0}}, api.OK}, ""},
		{row{spans{{0, top}, {0, 0}, {0, top}}, spans{{0, top}, {0, 0}, {0, top}}, api.OK}, ""},
		{row{spans{{-half, half}, {0, 0}, {-half, half}}, spans{{-half, half}, {0, 0}, {-half, half}}, api.OK}, ""},
		// It is one beyond, or more.
		{row{spans{{-half - 1, 0}, {0, half}, {-1, half}}, none, api.ErrFull}, "y"},
		{row{spans{{0, half + 1}, {-half, 0}, {-half, 1}}, none, api.ErrFull}, "y"},
		{row{spans{{-top, 1}, {0, 0}, {-top, 1}}, none, api.ErrFull}, "y"},
		{row{spans{{-1, top}, {0, 0}, {-1, top}}, none, api.ErrFull}, "y"},
		{row{spans{{-half - 1, half}, {0, 0}, {-half - 1, half}}, none, api.ErrFull}, "y"},
		{row{spans{{-top, top}, {0, 0}, {-top, top}}, none, api.ErrFull}, "y"},
		{row{spans{{-half, 1}, {1, half}, {-1000, half + 1}}, none, api.ErrFull}, "y"},
		{row{spans{{-1, half}, {-half, 999}, {-half - 3, 998}}, none, api.ErrFull}, "y"},
	})
}

// TestTimesFull likewise products and quotients.
func TestTimesFull(t *testing.T) {
	checkPlaces(t, times, []placeRow{
		// x Times y is just what may be.
		{row{spans{{top, top}, {1000, 1000}, {top, top}}, spans{{top, top}, {1000, 1000}, {top, top}}, api.OK}, ""},
		{row{spans{{-top, -top}, {1000, 1000}, {-top, -top}}, spans{{-top, -top}, {1000, 1000}, {-top, -top}}, api.OK}, ""},
		{row{spans{{-top, top}, {-1000, 1000}, {-top, top}}, spans{{-top, top}, {-1000, 1000}, {-top, top}}, api.OK}, ""},
		{row{spans{{999000999, 999000999}, {1001, 1001}, {0, top}}, spans{{999000999, 999000999}, {1001, 1001}, {top - 1, top}}, api.OK}, ""},
		{row{spans{{31250000, 31250000}, {32000, 32000}, {0, top}}, spans{{31250000, 31250000}, {32000, 32000}, {top, top}}, api.OK}, ""},
		{row{spans{{-top, 0}, {0, 1000}, {-top, 0}}, spans{{-top, 0}, {0, 1000}, {-top, 0}}, api.OK}, ""},
		// It is just beyond, by rounding too, or more; also where z would be nowhere in it.
		{row{spans{{top, top}, {1001, 1001}, {top, top}}, none, api.ErrFull}, "z"},
		{row{spans{{-top, -top}, {1001, 1001}, {-top, -top}}, none, api.ErrFull}, "z"},
		{row{spans{{-top, top}, {-1001, 1000}, {-top, top}}, none, api.ErrFull}, "z"},
		{row{spans{{-top, top}, {-1000, 1001}, {-top, top}}, none, api.ErrFull}, "z"},
		{row{spans{{997008974, 997008974}, {1003, 1003}, {0, top}}, none, api.ErrFull}, "z"},
		{row{spans{{-997008974, -997008974}, {1003, 1003}, {-top, 0}}, none, api.ErrFull}, "z"},
		{row{spans{{31622777, 31622777}, {31623, 31623}, {0, top}}, none, api.ErrFull}, "z"},
		{row{spans{{-top, 0}, {0, 1001}, {-top, 0}}, none, api.ErrFull}, "z"},
		{row{spans{{-top, top}, {-top, top}, {-top, top}}, none, api.ErrFull}, "z"},
		{row{spans{{top, top}, {top, top}, {top, top}}, none, api.ErrFull}, "z"},
		{row{spans{{top, top}, {1001, 1001}, {5, 5}}, none, api.ErrFull}, "z"},
		{row{spans{{0, top}, {0, 1001}, {-5, -5}}, none, api.ErrFull}, "z"},
		{row{spans{{top, top}, {-1001, 0}, {5, 5}}, none, api.ErrFull}, "z"},
		// z By y is just what may be.
		{row{spans{{0, half}, {1, 2}, {0, 1000000}}, spans{{0, half}, {1, 2}, {0, 1000000}}, api.OK}, ""},
		{row{spans{{-half, 0}, {1, 2}, {-1000000, 0}}, spans{{-half, 0}, {1, 2}, {-1000000, 0}}, api.OK}, ""},
		{row{spans{{0, half}, {-2, -1}, {-1000000, 0}}, spans{{0, half}, {-2, -1}, {-1000000, 0}}, api.OK}, ""},
		{row{spans{{0, 999000000}, {999, 1000}, {0, 999000000}}, spans{{0, 999000000}, {999, 1000}, {0, 999000000}}, api.OK}, ""},
		{row{spans{{0, top}, {1, 1}, {0, top}}, spans{{0, top}, {1, 1}, {0, 1000000}}, api.OK}, ""},
		{row{spans{{-top, 0}, {-1000, -999}, {0, 999000000}}, spans{{-top, 0}, {-1000, -999}, {0, 999000000}}, api.OK}, ""},
		// It is just beyond, or more.
		{row{spans{{0, 500000500}, {1, 2}, {0, 1000001}}, none, api.ErrFull}, "x"},
		{row{spans{{-500000500, 0}, {1, 2}, {-1000001, 0}}, none, api.ErrFull}, "x"},
		{row{spans{{0, 500000500}, {-2, -1}, {-1000001, 0}}, none, api.ErrFull}, "x"},
		{row{spans{{0, 999000001}, {999, 1000}, {0, 999000001}}, none, api.ErrFull}, "x"},
		{row{spans{{-top, 0}, {-1000, -999}, {0, 999000001}}, none, api.ErrFull}, "x"},
		{row{spans{{top, top}, {1, 1000}, {0, top}}, none, api.ErrFull}, "x"},
		{row{spans{{2, 2}, {1, half + 3}, {-1, half}}, none, api.ErrFull}, "x"},
		{row{spans{{1, 3}, {-half, -1}, {-half, -1}}, none, api.ErrFull}, "x"},
		{row{spans{{-3, 3}, {-half, -1}, {-half, 0}}, none, api.ErrFull}, "x"},
		{row{spans{{-top, top}, {1, 1000}, {-top, top}}, none, api.ErrFull}, "x"},
		{row{spans{{1000, 1000}, {1, top}, {top, top}}, none, api.ErrFull}, "x"},
		// z By the new x is just what may be.
		{row{spans{{1, 2}, {0, half}, {0, 1000000}}, spans{{1, 2}, {0, half}, {0, 1000000}}, api.OK}, ""},
		{row{spans{{1, 2}, {-half, 0}, {-1000000, 0}}, spans{{1, 2}, {-half, 0}, {-1000000, 0}}, api.OK}, ""},
		{row{spans{{-2, -1}, {0, half}, {-1000000, 0}}, spans{{-2, -1}, {0, half}, {-1000000, 0}}, api.OK}, ""},
		{row{spans{{999, 1000}, {0, 999000000}, {0, 999000000}}, spans{{999, 1000}, {0, 999000000}, {0, 999000000}}, api.OK}, ""},
		{row{spans{{1, 1}, {-top, top}, {-top, top}}, spans{{1, 1}, {-top, top}, {-1000000, 1000000}}, api.OK}, ""},
		{row{spans{{-1000, -999}, {-top, 0}, {0, 999000000}}, spans{{-1000, -999}, {-top, 0}, {0, 999000000}}, api.OK}, ""},
		// It is just beyond, or more.
		{row{spans{{1, 2}, {0, 500000500}, {0, 1000001}}, none, api.ErrFull}, "y"},
		{row{spans{{1, 2}, {-500000500, 0}, {-1000001, 0}}, none, api.ErrFull}, "y"},
		{row{spans{{-2, -1}, {0, 500000500}, {-1000001, 0}}, none, api.ErrFull}, "y"},
		{row{spans{{999, 1000}, {0, 999000001}, {0, 999000001}}, none, api.ErrFull}, "y"},
		{row{spans{{-1000, -999}, {-top, 0}, {0, 999000001}}, none, api.ErrFull}, "y"},
		{row{spans{{1, 1000}, {top, top}, {0, top}}, none, api.ErrFull}, "y"},
		{row{spans{{1, 4}, {999, half}, {0, half}}, none, api.ErrFull}, "y"},
		{row{spans{{-half - 1, -1}, {-47, -32}, {0, half}}, none, api.ErrFull}, "y"},
		{row{spans{{0, top}, {37, 37}, {1, half}}, none, api.ErrFull}, "y"},
		{row{spans{{-1000, 1}, {2500, top}, {-top, -half}}, none, api.ErrFull}, "y"},
		{row{spans{{-1, half + 1}, {1000, 1000}, {1, half - 3}}, none, api.ErrFull}, "y"},
		{row{spans{{1, 1000}, {-top, top}, {-top, top}}, none, api.ErrFull}, "y"},
	})
}

// checkThird asks with two of three numbers alone, and a span for the third one that has it, or misses it by a thousandth.
func checkThird(t *testing.T, w way, numbers [3]int) {
	t.Helper()
	var alone spans
	for i, n := range numbers {
		alone[i] = [2]int{n, n}
	}
	for i, n := range numbers {
		ask := func(third [2]int, want spans, told api.Errno) {
			t.Helper()
			given := alone
			given[i] = third
			checkRow(t, w, row{given, want, told})
		}
		for _, third := range [][2]int{{n, n}, {n, n + 1}, {n - 1, n}, {n - 9, n}, {n, n + 9}, {n - 1, n + 1}, {n - 9, n + 7}} {
			ask(third, alone, api.OK)
		}
		for _, third := range [][2]int{{n + 1, n + 1}, {n - 1, n - 1}, {n + 1, n + 9}, {n - 9, n - 1}} {
			ask(third, none, api.ErrNone)
		}
	}
}

func TestSumThird(t *testing.T) {
	numbers := []int{-half + 10, -5000, -1001, -7, -1, 0, 1, 2, 999, 1000, 31415, half - 10}
	for _, x := range numbers {
		for _, y := range numbers {
			checkThird(t, sum, [3]int{x, y, x + y})
		}
	}
}

// TestTimesThird takes numbers whose product is one; none of them is 0, by which nothing can be told.
func TestTimesThird(t *testing.T) {
	asked := 0
	numbers := []int{-250000, -5000, -1001, -1000, -500, -20, -7, -1, 1, 2, 8, 125, 999, 1000, 1250, 31000, 400000}
	for _, x := range numbers {
		for _, y := range numbers {
			if x*y%1000 == 0 {
				checkThird(t, times, [3]int{x, y, x * y / 1000})
				asked++
			}
		}
	}
	if asked < 100 {
		t.Errorf("only %d products are numbers", asked)
	}
}

// TestTimesRounded takes numbers whose product is between two: z has to have both, or what x and y are is asked.
func TestTimesRounded(t *testing.T) {
	checkRows(t, times, []row{
		// z has both.
		{spans{{741, 741}, {892, 892}, {0, 9999}}, spans{{741, 741}, {892, 892}, {660, 661}}, api.OK},
		{spans{{741, 741}, {892, 892}, {660, 661}}, spans{{741, 741}, {892, 892}, {660, 661}}, api.OK},
		{spans{{-741, -741}, {892, 892}, {-661, -660}}, spans{{-741, -741}, {892, 892}, {-661, -660}}, api.OK},
		{spans{{1001, 1001}, {1001, 1001}, {1002, 1003}}, spans{{1001, 1001}, {1001, 1001}, {1002, 1003}}, api.OK},
		{spans{{1, 1}, {1, 1}, {0, 1}}, spans{{1, 1}, {1, 1}, {0, 1}}, api.OK},
		{spans{{1, 1}, {-1, -1}, {-1, 0}}, spans{{1, 1}, {-1, -1}, {-1, 0}}, api.OK},
		// z has one of them, and by rounding x and y go with it, or do not.
		{spans{{741, 741}, {892, 892}, {661, 9999}}, spans{{741, 741}, {892, 892}, {661, 661}}, api.OK},
		{spans{{741, 741}, {892, 892}, {0, 660}}, none, api.ErrNone},
		{spans{{-741, -741}, {892, 892}, {-660, 0}}, none, api.ErrNone},
		{spans{{-741, -741}, {892, 892}, {-9999, -661}}, spans{{-741, -741}, {892, 892}, {-661, -661}}, api.OK},
		{spans{{1001, 1001}, {1001, 1001}, {0, 1002}}, spans{{1001, 1001}, {1001, 1001}, {1002, 1002}}, api.OK},
		{spans{{1001, 1001}, {1001, 1001}, {1003, 1003}}, spans{{1001, 1001}, {1001, 1001}, {1003, 1003}}, api.OK},
		{spans{{1, 1}, {1, 1}, {0, 0}}, none, api.ErrNone},
		{spans{{1, 1}, {1, 1}, {1, 1}}, none, api.ErrNone},
		{spans{{2000, 2000}, {1, 1}, {2, 2}}, spans{{2000, 2000}, {1, 1}, {2, 2}}, api.OK},
		// z has neither.
		{spans{{741, 741}, {892, 892}, {662, 9999}}, none, api.ErrNone},
		{spans{{741, 741}, {892, 892}, {0, 659}}, none, api.ErrNone},
		{spans{{1001, 1001}, {1001, 1001}, {1004, 1004}}, none, api.ErrNone},
		{spans{{1001, 1001}, {1001, 1001}, {1001, 1001}}, none, api.ErrNone},
		{spans{{1, 1}, {1, 1}, {2, 2}}, none, api.ErrNone},
		{spans{{1, 1}, {1, 1}, {-1, -1}}, none, api.ErrNone},
		// x has both that are next to z By y, one of them, neither.
		{spans{{0, 9999}, {3000, 3000}, {1000, 1000}}, spans{{333, 334}, {3000, 3000}, {1000, 1000}}, api.OK},
		{spans{{333, 334}, {3000, 3000}, {1000, 1000}}, spans{{333, 334}, {3000, 3000}, {1000, 1000}}, api.OK},
		{spans{{334, 999}, {3000, 3000}, {1000, 1000}}, none, api.ErrNone},
		{spans{{0, 333}, {3000, 3000}, {1000, 1000}}, none, api.ErrNone},
		{spans{{335, 999}, {3000, 3000}, {1000, 1000}}, none, api.ErrNone},
		{spans{{0, 332}, {3000, 3000}, {1000, 1000}}, none, api.ErrNone},
		{spans{{0, 999}, {300, 300}, {100, 100}}, spans{{333, 334}, {300, 300}, {100, 100}}, api.OK},
		{spans{{334, 999}, {300, 300}, {100, 100}}, spans{{334, 334}, {300, 300}, {100, 100}}, api.OK},
		{spans{{0, 333}, {300, 300}, {100, 100}}, spans{{333, 333}, {300, 300}, {100, 100}}, api.OK},
		{spans{{335, 999}, {300, 300}, {100, 100}}, none, api.ErrNone},
		{spans{{0, 332}, {300, 300}, {100, 100}}, none, api.ErrNone},
		// y likewise.
		{spans{{3000, 3000}, {0, 9999}, {1000, 1000}}, spans{{3000, 3000}, {333, 334}, {1000, 1000}}, api.OK},
		{spans{{3000, 3000}, {333, 334}, {1000, 1000}}, spans{{3000, 3000}, {333, 334}, {1000, 1000}}, api.OK},
		{spans{{3000, 3000}, {334, 999}, {1000, 1000}}, none, api.ErrNone},
		{spans{{3000, 3000}, {1, 333}, {1000, 1000}}, none, api.ErrNone},
		{spans{{-3000, -3000}, {335, 999}, {-1000, -1000}}, none, api.ErrNone},
		{spans{{300, 300}, {-5, 999}, {100, 100}}, spans{{300, 300}, {333, 334}, {100, 100}}, api.OK},
		{spans{{300, 300}, {334, 999}, {100, 100}}, spans{{300, 300}, {334, 334}, {100, 100}}, api.OK},
		{spans{{300, 300}, {0, 333}, {100, 100}}, spans{{300, 300}, {333, 333}, {100, 100}}, api.OK},
		{spans{{300, 300}, {335, 999}, {100, 100}}, none, api.ErrNone},
		{spans{{300, 300}, {0, 332}, {100, 100}}, none, api.ErrNone},
	})
}

// wrongSpans are spans with a fault, and which.
var wrongSpans = []struct {
	ends [2]int
	told api.Errno
}{
	{[2]int{1, 0}, api.ErrShape},
	{[2]int{0, -1}, api.ErrShape},
	{[2]int{top, -top}, api.ErrShape},
	{[2]int{top, top - 1}, api.ErrShape},
	{[2]int{-top + 1, -top}, api.ErrShape},
	{[2]int{0, top + 1}, api.ErrRange},
	{[2]int{-top - 1, 0}, api.ErrRange},
	{[2]int{-top - 1, top + 1}, api.ErrRange},
	{[2]int{math.MinInt, math.MaxInt}, api.ErrRange},
	{[2]int{math.MinInt, 0}, api.ErrRange},
	{[2]int{0, math.MaxInt}, api.ErrRange},
	{[2]int{math.MinInt, math.MinInt}, api.ErrRange},
	{[2]int{math.MaxInt, math.MaxInt}, api.ErrRange},
	// The wrong way round as well: the number is told first.
	{[2]int{top + 1, 0}, api.ErrRange},
	{[2]int{0, -top - 1}, api.ErrRange},
	{[2]int{top + 1, top}, api.ErrRange},
	{[2]int{math.MaxInt, math.MinInt}, api.ErrRange},
	{[2]int{0, math.MinInt}, api.ErrRange},
}

// rightSpans go together, have nothing together, and are beyond what may be, at each of the three.
var rightSpans = []spans{
	{{1000, 2000}, {3000, 4000}, {4000, 6000}},
	{{0, 0}, {0, 0}, {0, 0}},
	{{1, 2}, {3, 4}, {-9, -8}},
	{{top, top}, {top, top}, {top, top}},
	{{0, top}, {-top, 0}, {-top, top}},
	{{-top, top}, {0, 0}, {-top, top}},
	{{-top, top}, {1, 1000}, {-top, top}},
	{{1, 1000}, {-top, top}, {-top, top}},
	{{1, 1}, {0, 1}, {1, 1}},
}

// TestWrong sees that each fault of x, of y and of z is told, whatever the others are: ahead of what has nothing together, and of what is beyond what may be.
func TestWrong(t *testing.T) {
	for _, w := range both {
		for _, right := range rightSpans {
			for i := range right {
				for _, wrong := range wrongSpans {
					given := right
					given[i] = wrong.ends
					checkRow(t, w, row{given, none, wrong.told})
				}
			}
		}
	}
}

// TestWrongFirst sees that of several faults that of x is told ahead of that of y, and that of y ahead of that of z.
func TestWrongFirst(t *testing.T) {
	for _, w := range both {
		for _, first := range wrongSpans {
			for _, second := range wrongSpans {
				for _, given := range []spans{
					{first.ends, second.ends, {1, 2}},
					{first.ends, {1, 2}, second.ends},
					{{1, 2}, first.ends, second.ends},
					{first.ends, second.ends, second.ends},
					{{top, top}, first.ends, second.ends},
				} {
					checkRow(t, w, row{given, none, first.told})
				}
			}
		}
	}
}

// spansOf gives all spans whose ends are of these numbers, those the wrong way round too if they are asked for.
func spansOf(numbers []int, wrong bool) [][2]int {
	var all [][2]int
	for _, lo := range numbers {
		for _, hi := range numbers {
			if lo <= hi || wrong {
				all = append(all, [2]int{lo, hi})
			}
		}
	}
	return all
}

// place is what is told, and at which span.
type place struct {
	told api.Errno
	at   string
}

// checkAll holds both calls against what is meant, of all three of these spans, and gives what came of each.
func checkAll(t *testing.T, all [][2]int) map[string][]place {
	t.Helper()
	found := map[string][]place{}
	for _, w := range both {
		for _, x := range all {
			for _, y := range all {
				for _, z := range all {
					r, at := w.meant(spans{x, y, z}, noMistake)
					checkRow(t, w, r)
					if p := (place{r.told, at}); !slices.Contains(found[w.name], p) {
						found[w.name] = append(found[w.name], p)
					}
				}
			}
		}
	}
	return found
}

// TestAnyInt takes any int as an end: every call ends, and tells what is meant.
func TestAnyInt(t *testing.T) {
	checkAll(t, spansOf([]int{math.MinInt, -top - 1, -top, -1, 0, 1, top, top + 1, math.MaxInt}, true))
}

// TestAllOfEdges takes numbers that are next to what may be, next to 0, and next to One; and sees that all errors that can be told are told, at each span where that can be: of Sum ErrNone is told at z alone.
func TestAllOfEdges(t *testing.T) {
	found := checkAll(t, spansOf([]int{-top, -half, -1001, -1000, -1, 0, 1, 999, 1000, half + 1, top}, false))
	full := []place{{api.ErrFull, "z"}, {api.ErrFull, "x"}, {api.ErrFull, "y"}}
	for _, c := range []struct {
		name string
		want []place
	}{
		{"Sum", append(full, place{api.OK, ""}, place{api.ErrNone, "z"})},
		{"Times", append(full, place{api.OK, ""}, place{api.ErrNone, "z"}, place{api.ErrNone, "x"}, place{api.ErrNone, "y"})},
	} {
		got := found[c.name]
		if len(got) != len(c.want) || slices.ContainsFunc(c.want, func(p place) bool { return !slices.Contains(got, p) }) {
			t.Errorf("%s tells %v, want %v", c.name, got, c.want)
		}
	}
}

// TestAllOfRounded takes numbers of which few products and quotients are numbers.
func TestAllOfRounded(t *testing.T) {
	checkAll(t, spansOf([]int{-2718, -1000, -577, -37, -3, 0, 2, 31, 613, 1414}, false))
}

// point is a number of thousandths, n by d of them; d is above 0. Those of pointsOf have a d of at most 3, so nothing that is made of two of them, and held against an end, wraps round.
type point struct{ n, d int }

func pointsAdded(a, b point) point { return point{a.n*b.d + b.n*a.d, a.d * b.d} }

func pointsLess(a, b point) (point, bool) { return point{a.n*b.d - b.n*a.d, a.d * b.d}, true }

func pointsTimes(a, b point) point { return point{a.n * b.n, a.d * b.d * 1000} }

func pointsBy(a, b point) (point, bool) {
	if b.n < 0 {
		a.n, b.n = -a.n, -b.n
	}
	return point{a.n * 1000 * b.d, a.d * b.n}, b.n != 0
}

func isIn(p point, s [2]int) bool { return s[0]*p.d <= p.n && p.n <= s[1]*p.d }

// pointsOf gives some numbers of a span: its ends, 0 if it is in it, the middle, and one that is a third from Lo.
func pointsOf(s [2]int) []point {
	all := []point{{s[0], 1}, {s[1], 1}, {s[0] + s[1], 2}, {2*s[0] + s[1], 3}}
	if s[0] <= 0 && s[1] >= 0 {
		all = append(all, point{0, 1})
	}
	return all
}

// threes gives numbers of x, y and z of which two are the third one: such as are found from two of the spans, if the third number is in its span.
func (w way) threes(s spans) [][3]point {
	var found [][3]point
	keep := func(three [3]point, ok bool) {
		if ok && isIn(three[0], s[0]) && isIn(three[1], s[1]) && isIn(three[2], s[2]) {
			found = append(found, three)
		}
	}
	xs, ys, zs := pointsOf(s[0]), pointsOf(s[1]), pointsOf(s[2])
	for _, x := range xs {
		for _, y := range ys {
			keep([3]point{x, y, w.together(x, y)}, true)
		}
		for _, z := range zs {
			y, ok := w.apart(z, x)
			keep([3]point{x, y, z}, ok)
		}
	}
	for _, y := range ys {
		for _, z := range zs {
			x, ok := w.apart(z, y)
			keep([3]point{x, y, z}, ok)
		}
	}
	return found
}

// checkKept sees that numbers that go together are in what is told, that there are none where ErrNone is told, and that what is told is within what was handed in; it gives how many there were, and what was told.
func checkKept(t *testing.T, w way, s spans) (int, api.Errno) {
	t.Helper()
	x, y, z, err := w.call(s.at(0), s.at(1), s.at(2))
	told := plain.Told(err)
	if told != api.OK && told != api.ErrNone {
		return 0, told
	}
	threes := w.threes(s)
	if told == api.ErrNone {
		if len(threes) > 0 {
			t.Errorf("%s(%v) tells ErrNone, but there is %v", w.name, s, threes[0])
		}
		return 0, told
	}
	now := spans{{x.Lo, x.Hi}, {y.Lo, y.Hi}, {z.Lo, z.Hi}}
	for i := range now {
		if now[i][0] < s[i][0] || now[i][1] > s[i][1] || now[i][0] > now[i][1] {
			t.Errorf("%s(%v) = %v is not within that", w.name, s, now)
		}
	}
	for _, three := range threes {
		for i, p := range three {
			if !isIn(p, now[i]) {
				t.Errorf("%s(%v) = %v has not %v", w.name, s, now, three)
			}
		}
	}
	return len(threes), told
}

// TestKept goes over spans of small numbers, where much is rounded, over such of whole and half numbers, and over both together.
func TestKept(t *testing.T) {
	for _, numbers := range [][]int{
		{-4, -3, -2, -1, 0, 1, 2, 3, 5},
		{-3000, -2000, -1500, -500, 0, 500, 1000, 1500, 2500},
		{-2500, -1000, -37, -2, 0, 1, 20, 999, 1001},
		{-top, -half, -1000000, -1000, 0, 1, 31, 1000, half, top},
	} {
		for _, w := range both {
			kept, noneTold := 0, 0
			all := spansOf(numbers, false)
			for _, x := range all {
				for _, y := range all {
					for _, z := range all {
						many, told := checkKept(t, w, spans{x, y, z})
						kept += many
						if told == api.ErrNone {
							noneTold++
						}
					}
				}
			}
			if kept < 10000 || noneTold < 1000 {
				t.Errorf("%s over %v: %d were asked, and ErrNone was told %d times", w.name, numbers, kept, noneTold)
			}
		}
	}
}

// TestSumEach sees, number by number, that what Sum keeps is just what goes with something of the others.
func TestSumEach(t *testing.T) {
	all := spansOf([]int{-4, -3, -2, -1, 0, 1, 2, 3, 4}, false)
	for _, x := range all {
		for _, y := range all {
			for _, z := range all {
				checkRow(t, sum, hullOfSums(spans{x, y, z}))
			}
		}
	}
}

// hullOfSums gives the least spans that have all numbers of these that go together.
func hullOfSums(s spans) row {
	r := row{s, none, api.ErrNone}
	for x := s[0][0]; x <= s[0][1]; x++ {
		for y := s[1][0]; y <= s[1][1]; y++ {
			three := [3]int{x, y, x + y}
			if three[2] < s[2][0] || three[2] > s[2][1] {
				continue
			}
			for i, n := range three {
				if r.told == api.ErrNone {
					r.want[i] = [2]int{n, n}
				}
				r.want[i] = [2]int{min(r.want[i][0], n), max(r.want[i][1], n)}
			}
			r.told = api.OK
		}
	}
	return r
}

// TestAgain asks the same again, behind other calls: what is told hangs on what is handed in alone. What Sum tells it tells again of that.
func TestAgain(t *testing.T) {
	for range 3 {
		for i := range rightSpans {
			for _, w := range both {
				r, _ := w.meant(rightSpans[i], noMistake)
				checkRow(t, w, r)
			}
		}
		checkRows(t, times, timesKinds())
		for _, r := range sumKinds() {
			checkRow(t, sum, row{r.want, r.want, api.OK})
		}
	}
}

func FuzzTogether(f *testing.F) {
	f.Add(1000, 5000, 2000, 3000, 0, 5000)
	f.Add(-2000, 3000, 1000, 4000, 5000, 6000)
	f.Add(0, 1, 1, 999, 1, 1)
	f.Add(-top, top, 1, 1000, -top, top)
	f.Fuzz(func(t *testing.T, a, b, c, d, e, g int) {
		ask := func(s spans) {
			for _, w := range both {
				r, _ := w.meant(s, noMistake)
				checkRow(t, w, r)
				checkKept(t, w, s)
			}
		}
		ask(spans{{a, b}, {c, d}, {e, g}})
		// Most ints are none that may be, and of those that may be most are beyond it together, so they are brought near as well.
		for _, far := range []int{top + 1, 100000, 3000, 50} {
			ask(spans{{a % far, b % far}, {c % far, d % far}, {e % far, g % far}})
		}
	})
}
