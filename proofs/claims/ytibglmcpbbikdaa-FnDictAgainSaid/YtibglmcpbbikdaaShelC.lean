/- Copies of texts: a library contract. -/
import Derived.Test.YtibglmcpbbikdaaShelf
